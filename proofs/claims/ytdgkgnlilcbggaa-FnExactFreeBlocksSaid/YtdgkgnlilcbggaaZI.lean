/-
  Contract: what is left in a network at first, in the model.
-/
import Derived.Test.YtdgkgnlilcbggaaZG
import Derived.Test.YtdgkgnlilcbggaaZL
import Derived.Deep.RegionHeld3
import Derived.Deep.DeepCutAuto
import Derived.Deep.DrawnRows
import Derived.IntWalk
namespace Go.Proofs.Ytdgkgnlilcbggaa
open Go.RowKit
set_option linter.unusedVariables false

theorem mfState_ne : (63 : TypeId) ≠ 3 ∧ (63 : TypeId) ≠ 23 := by decide
/-- What mfStart gives: a pointer to a struct of a number and three slices of a family that lies apart. -/
def GivesSt (w : World) (n m : Nat) (xs : List Int) (e : Ending) (w' : World) : Prop :=
  ∃ g gl vs, e = .returned (.pointer (some ⟨g, 0, none⟩)) ∧ w'.cell? ⟨g, 0, none⟩ = some (.int .i64 n) ∧ w.heap.size ≤ g ∧ RQ w' w.heap.size g 1 gl n 63 vs (resX (eF xs) (eT xs) (eC xs) n m) ∧ Below w.heap.size w w'

set_option maxHeartbeats 16000000 in
set_option maxRecDepth 100000 in
theorem c_mfStart (n m : Nat) (xs : List Int) (v : Value) (w : World) (hn : netW n m xs = true) (h : SeenP w v m xs) :
    Calls Try.prog 36 #[.int .i64 n, v] w (GivesSt w n m xs) := by
  obtain ⟨i0, hi0, hz0, hz1, hz2⟩ := info_parts int_info
  obtain ⟨il, hil, hl0, hl1, hl2⟩ := info_parts list_info
  have HI := Lib.hid hi0
  clear hi0
  obtain ⟨A, c, rfl, hm, hx, hA⟩ := h
  obtain ⟨n1, n2, n3, hE⟩ := netW_true hn
  have E1 : Hid (∀ k : Nat, k < m → ∃ b off, A = some ⟨b, off, none⟩ ∧ b < w.heap.size ∧ ∀ j : Nat, j < m * 3 → w.cell? ⟨b, off + j, none⟩ = some (.int .i64 (xs.getD j 0))) := fun k hk => hA (by omega)
  have EA : Hid (∀ k, k < m → xs.getD (k * 3) 0 = (eF xs k : Int) ∧ xs.getD (k * 3 + 1) 0 = (eT xs k : Int) ∧ 0 ≤ eC xs k ∧ eC xs k ≤ 1000000000) := fun k hk => eF_at hn hk
  have EN : Hid (EndsIn n (eF xs) (eT xs) m) := ends_in hn
  have EC : Hid (∀ k, xs.getD (k * 3 + 2) 0 = eC xs k) := fun k => rfl
  have hmk : ∀ u : World, (Instr.makeSlice 22 (.int .i64 (n : Int)) (.int .i64 (n : Int))).run Try.prog u = .ok (.slice (some ⟨u.heap.size, 0, none⟩) n n) (u.alloc (.cells (madeCells #[.slice none 0 0] (n * 1)) 23)) := fun u => by
    have := run_make (P := Try.prog) u 22 23 il (.slice none 0 0) Try.underlying22 hil hl0 .i64 .i64 (n : Int) (n : Int) (by omega) (by omega) (by rw [hl2]; omega) (by omega)
    simpa [hl1, Value.cells] using this
  clear hA hE hx hm hil hl0 hl1 hl2 hn
  generalize hfr : eF xs = fr at *
  generalize htg : eT xs = tg at *
  generalize hcp : eC xs = cp at *
  have HFr := Lib.hid hfr
  have HTg := Lib.hid htg
  have HCp := Lib.hid hcp
  clear hfr htg hcp
  go_enter Try.func36, Try.ntmps36
  go_wp2_with fail
  go_loopw [15] (fun i wr => ∃ k : Nat, k ≤ m ∧ i = .int .i64 k ∧ (∃ vs, RQ wr w.heap.size (w.heap.size + 1) 1 w.heap.size n 63 vs (resX fr tg cp n k)) ∧ wr.cell? ⟨w.heap.size + 1, 0, none⟩ = some (.int .i64 n) ∧ Below w.heap.size w wr ∧ w.heap.size + 1 < wr.heap.size) (fun i _ => m - (intOf i).toNat)
  case atStart =>
    have ho := World.ownsRow_lit (base := w.heap.size) (e := 23) (size := 1) w (madeCells #[.slice none 0 0] n) n (by omega) (by unfold maxLen; omega) (by rw [size_madeCells]; simp)
    rw [nils] at ho
    have hz : (w.alloc (.cells (madeCells #[.slice none 0 0] n) 23)).heap.size = w.heap.size + 1 := by simp
    refine ⟨0, Nat.zero_le _, rfl, ⟨fun _ => .slice none 0 0, ⟨fun i hi => by rw [resX_zero]; exact Row.nil _ _, fun _ _ _ _ _ => .inl rfl⟩, World.ownsRow.alloc (by rw [show mapR n (fun _ => Value.slice none 0 0) = List.replicate n (.slice none 0 0) by simp [mapR, List.map_const']]; exact ho) _, ?_, ?_, ?_, fun j => ?_, ?_⟩, ?_, ((Below.refl _ _).alloc (by omega) _).alloc (by simp) _, by simp⟩
    all_goals rw [← hz]
    · simp
    · simp
    · simp
    · simp
    · exact TyAt.new _ _ _
    · simp
  case round =>
    obtain ⟨k, hk, rfl, ⟨vs, hq⟩, hn0, hb, hs⟩ := hrel
    have HQ := Lib.hid hq
    have HB := Lib.hid hb
    have HN0 := Lib.hid hn0
    clear hq hb hn0
    by_cases hlt : k < m
    · obtain ⟨b, off, rfl, hbl, hc⟩ := E1.out k hlt
      obtain ⟨a0, a1, a2, a3⟩ := EA.out k hlt
      obtain ⟨d0, d1⟩ := EN.out k hlt
      have q0 : wr.cell? ⟨b, off + k * 3, none⟩ = some (.int .i64 (fr k)) := by rw [HB.out.cell (p := ⟨b, off + k * 3, none⟩) hbl, ← a0]; exact hc _ (by omega)
      have q1 : wr.cell? ⟨b, off + k * 3 + 1, none⟩ = some (.int .i64 (tg k)) := by rw [HB.out.cell (p := ⟨b, off + k * 3 + 1, none⟩) hbl, ← a1]; exact hc (k * 3 + 1) (by omega)
      have q2 : wr.cell? ⟨b, off + k * 3 + 2, none⟩ = some (.int .i64 (cp k)) := by rw [HB.out.cell (p := ⟨b, off + k * 3 + 2, none⟩) hbl, ← EC.out]; exact hc (k * 3 + 2) (by omega)
      have S1 := Lib.hid (HQ.out.edge (fr k) (tg k) (cp k))
      have HX := Lib.hid (fun i hi => resX_step (fr := fr) (tg := tg) (cp := cp) (n := n) (k := k) d0 d1 i hi)
      have HT := Lib.hid (resX_to (fr := fr) (tg := tg) (cp := cp) (n := n) (k := k))
      have HF := Lib.hid (resX_fr (fr := fr) (tg := tg) (cp := cp) (n := n) (k := k))
      have HX1 := Lib.hid (show resX fr tg cp n k 1 = rmL cp k from rfl)
      have L0 := hdL_len fr tg k
      have L1 := rmL_len cp k
      have HLf : Hid (((arcL fr tg n k).getD (fr k) []).length ≤ 16000) := by show _ ≤ _; have := arcL_slen fr tg n (fr k) k (fun j hj => EN.out j (by omega)); omega
      have HLt : Hid (((arcL fr tg n k).getD (tg k) []).length ≤ 16000) := by show _ ≤ _; have := arcL_slen fr tg n (tg k) k (fun j hj => EN.out j (by omega)); omega
      have sw := HB.out.size
      have R0 : Hid (Row (wr.alloc (.cells #[.int .i64 (fr k), .int .i64 (tg k), .int .i64 (cp k)] 54)) w.heap.size (vs 0) (hdL fr tg k)) := World.ownsRow.alloc (HQ.out.fam.row 0 (by omega)) _
      have HBa : Hid (Below w.heap.size w (wr.alloc (.cells #[.int .i64 (fr k), .int .i64 (tg k), .int .i64 (cp k)] 54))) := HB.out.alloc sw _
      have HNa : Hid ((wr.alloc (.cells #[.int .i64 (fr k), .int .i64 (tg k), .int .i64 (cp k)] 54)).cell? ⟨w.heap.size + 1, 0, none⟩ = some (.int .i64 n)) := by
        have hb : Below wr.heap.size wr (wr.alloc (.cells #[.int .i64 (fr k), .int .i64 (tg k), .int .i64 (cp k)] 54)) := (Below.refl _ _).alloc (Nat.le_refl _) _
        show _ = _
        rw [hb.cell (p := ⟨w.heap.size + 1, 0, none⟩) hs]; exact HN0.out
      have za : wr.heap.size < (wr.alloc (.cells #[.int .i64 (fr k), .int .i64 (tg k), .int .i64 (cp k)] 54)).heap.size := by simp
      have hcast : ((2 * k : Nat) : Int) = 2 * (k : Int) := by omega
      have hcast1 : ((2 * k + 1 : Nat) : Int) = 2 * (k : Int) + 1 := by omega
      rw [hcast, hcast1] at HX
      rw [hcast] at HT
      clear hcast hcast1
      have HL0 : Hid ((hdL fr tg k).length ≤ 16000) := by show _ ≤ _; omega
      have HL1 : Hid ((rmL cp k).length ≤ 16000) := by show _ ≤ _; omega
      clear hc hbl a0 a1 HQ HN0 L0 L1
      have b1 : (0 : Int) ≤ (k : Int) := by omega
      have b2 : (k : Int) < (m : Int) := by omega
      have HK : Hid (k ≤ 8000) := by show k ≤ 8000; omega
      generalize (arcL fr tg n k).getD (fr k) [] = lf at *
      generalize (arcL fr tg n k).getD (tg k) [] = lt at *
      generalize hx0 : resX fr tg cp n k = X0 at *
      clear hx0
      generalize hdL fr tg k = x0 at *
      generalize rmL cp k = x1 at *
      generalize fr k = f at *
      generalize tg k = t at *
      generalize cp k = c at *
      go_wp2_with fail
      generalize wr.alloc (.cells #[.int .i64 (f : Int), .int .i64 (t : Int), .int .i64 c] 54) = wa at *
      have KA5 : Hid (∀ u, Below wa.heap.size wa u → (fun u => u.cell? ⟨w.heap.size + 1, 1, none⟩ = some (vs 0) ∧ u.cell? ⟨wr.heap.size, 1, none⟩ = some (.int .i64 (t : Int)) ∧ u.cell? ⟨wr.heap.size, 0, none⟩ = some (.int .i64 (f : Int))) u) := fun u hu => by
        have h := S1.out.below hu
        exact ⟨h.c0, h.e1, h.e0⟩
      have KD5 : Hid (Below wa.heap.size wa wa.drew) := (Below.refl _ _).drew
      have HW5 : Hid (w.heap.size ≤ wa.heap.size) := HBa.out.size
      obtain ⟨S5, hS5⟩ : ∃ S : World → Prop, S = (fun u => u.cell? ⟨w.heap.size + 1, 1, none⟩ = some (vs 0) ∧ u.cell? ⟨wr.heap.size, 1, none⟩ = some (.int .i64 (t : Int)) ∧ u.cell? ⟨wr.heap.size, 0, none⟩ = some (.int .i64 (f : Int))) := ⟨_, rfl⟩
      refine region_till S5 13 (by kernel_rfl) (by rw [hS5]; exact KA5.out _ KD5.out) (fun hHeld => ?_)
      refine till_take (i := 0) (v := ?v5_0) rfl (by kernel_rfl) (by kernel_rfl) (by kernel_rfl) (by kernel_rfl) (fun _ _ _ h => h) (Or.inl ⟨by rfl, ?hy5_0⟩) (by assumption) ?rest5_0
      case hy5_0 =>
        intro u hSw
        rw [hS5] at hSw; obtain ⟨x0_, x1_, x2_⟩ := hSw
        go_simp
        try with_reducible rfl
      case rest5_0 =>
        refine till_take (i := 1) (v := ?v5_1) rfl (by kernel_rfl) (by kernel_rfl) (by kernel_rfl) (by kernel_rfl) (fun _ _ _ h => h) (Or.inl ⟨by rfl, ?hy5_1⟩) (by assumption) ?rest5_1
        case hy5_1 =>
          intro u hSw
          rw [hS5] at hSw; obtain ⟨x0_, x1_, x2_⟩ := hSw
          go_simp
          try with_reducible rfl
        case rest5_1 =>
          refine till_take (i := 2) (v := ?v5_2) rfl (by kernel_rfl) (by kernel_rfl) (by kernel_rfl) (by kernel_rfl) (fun _ _ _ h => h) (Or.inl ⟨by rfl, ?hy5_2⟩) (by assumption) ?rest5_2
          case hy5_2 =>
            intro u hSw
            rw [hS5] at hSw; obtain ⟨x0_, x1_, x2_⟩ := hSw
            go_simp
            try with_reducible rfl
          case rest5_2 =>
            refine till_take (i := 3) (v := ?v5_3) rfl (by kernel_rfl) (by kernel_rfl) (by kernel_rfl) (by kernel_rfl) (fun _ _ _ h => h) (Or.inl ⟨by rfl, ?hy5_3⟩) (by assumption) ?rest5_3
            case hy5_3 =>
              intro u hSw
              rw [hS5] at hSw; obtain ⟨x0_, x1_, x2_⟩ := hSw
              go_simp
              try with_reducible rfl
            case rest5_3 =>
              refine till_take (i := 4) (v := ?v5_4) rfl (by kernel_rfl) (by kernel_rfl) (by kernel_rfl) (by kernel_rfl) (fun _ _ _ h => h) (Or.inl ⟨by rfl, ?hy5_4⟩) (by assumption) ?rest5_4
              case hy5_4 =>
                intro u hSw
                rw [hS5] at hSw; obtain ⟨x0_, x1_, x2_⟩ := hSw
                go_simp
                try with_reducible rfl
              case rest5_4 =>
                refine till_take (i := 5) (v := ?v5_5) rfl (by kernel_rfl) (by kernel_rfl) (by kernel_rfl) (by kernel_rfl) (fun _ _ _ h => h) (Or.inl ⟨by rfl, ?hy5_5⟩) (by assumption) ?rest5_5
                case hy5_5 =>
                  intro u hSw
                  rw [hS5] at hSw; obtain ⟨x0_, x1_, x2_⟩ := hSw
                  go_simp
                  try with_reducible rfl
                case rest5_5 =>
                  refine till_take (i := 6) (v := ?v5_6) rfl (by kernel_rfl) (by kernel_rfl) (by kernel_rfl) (by kernel_rfl) (fun _ _ _ h => h) (Or.inl ⟨by rfl, ?hy5_6⟩) (by assumption) ?rest5_6
                  case hy5_6 =>
                    intro u hSw
                    rw [hS5] at hSw; obtain ⟨x0_, x1_, x2_⟩ := hSw
                    go_simp
                    try with_reducible rfl
                  case rest5_6 =>
                    refine till_take (i := 7) (v := ?v5_7) rfl (by kernel_rfl) (by kernel_rfl) (by kernel_rfl) (by kernel_rfl) (fun _ _ _ h => h) (Or.inl ⟨by rfl, ?hy5_7⟩) (by assumption) ?rest5_7
                    case hy5_7 =>
                      intro u hSw
                      rw [hS5] at hSw; obtain ⟨x0_, x1_, x2_⟩ := hSw
                      go_simp
                      try with_reducible rfl
                    case rest5_7 =>
                      refine till_take (i := 8) (v := ?v5_8) rfl (by kernel_rfl) (by kernel_rfl) (by kernel_rfl) (by kernel_rfl) (fun _ _ _ h => h) (Or.inl ⟨by rfl, ?hy5_8⟩) (by assumption) ?rest5_8
                      case hy5_8 =>
                        intro u hSw
                        rw [hS5] at hSw; obtain ⟨x0_, x1_, x2_⟩ := hSw
                        go_simp
                        try with_reducible rfl
                      case rest5_8 =>
                        simp only [List.getElem_toArray, List.getElem_cons_zero, List.getElem_cons_succ, Act.put, List.setIfInBounds_toArray, List.set_cons_zero, List.set_cons_succ]
                        refine till_one (i := 9) rfl (by kernel_rfl) (fun K hK => ?_)
                        go_simp
                        refine hK.out _ _ (fun hz => by rw [hS5]; exact KA5.out _ ((Below.refl _ _).drew.alloc (Nat.le_refl _) _)) (fun hH => ?_)
                        have hHeld := hH (by omega)
                        clear hK K hH
                        refine till_one (i := 10) rfl (by kernel_rfl) (fun K hK => ?_)
                        refine step_append_lies _ rfl _ _ 23 (by rfl) w.heap.size 3 i0 (.int .i64 0) 1 8 Try.underlying23 HI.out hz0 hz1 hz2 rfl (by decide) _ _ _ (by rfl) (World.ownsRow.alloc R0.out _) ⟨wa.heap.size, 0, none⟩ 2 2 [.int .i64 (t : Int), .int .i64 (f : Int)] (by rfl) (by rfl) (news_two (by simp) (by simp)) (ones_two _ _) (by omega) (by have := HL0.out; unfold maxLen; omega) (by have := HL0.out; omega) (by have := HW5.out; simp; omega) (wa.heap.size + 1) (by simp) ?_
                        intro g5 cap5 wx5 hown hgrow hat hlt
                        have HR5 : Hid (Row wx5 w.heap.size (.slice (some ⟨g5, 0, none⟩) (x0.length + 2) cap5) (x0 ++ [((t : Int) : Int), ((f : Int) : Int)])) := row_two hown rfl
                        have SN5 := Lib.hid ((S1.out.below ((Below.refl _ _).drew.alloc (Nat.le_refl _) _)).app mfState_ne.1 (i := 0) (by omega) HR5.out hgrow (at_new hat (by simp)))
                        have NG5 : Hid (∀ j, wx5.cell? ⟨w.heap.size + 1, j, none⟩ = wa.cell? ⟨w.heap.size + 1, j, none⟩) := fun j => by
                          have hb : Below wa.heap.size wa (wa.drew.alloc (.cells #[.int .i64 (t : Int), .int .i64 (f : Int)] 3)) := (Below.refl _ _).drew.alloc (Nat.le_refl _) _
                          exact (hgrow.cell_far ⟨w.heap.size + 1, j, none⟩ (Nat.lt_of_lt_of_le S1.out.ty.lt hb.size) (fun e => own_off R0.out S1.out.ty mfState_ne.1 e.symm)).trans (hb.cell (p := ⟨w.heap.size + 1, j, none⟩) S1.out.ty.lt)
                        have HN5 : Hid (Below w.heap.size w wx5) := (HBa.out.drew.alloc HW5.out _).grown hgrow (by have := HW5.out; simp; omega) (fun g hg => (World.ownsRow.lt R0.out g hg).1)
                        have HZ5 : Hid (wa.heap.size ≤ wx5.heap.size) := Nat.le_trans (Nat.le_add_right _ 1) (by have := hgrow.size; simpa using this)
                        have KB5 : Hid ((fun u => u.cell? ⟨w.heap.size + 1, 1, none⟩ = some (vs 0) ∧ u.cell? ⟨wr.heap.size, 1, none⟩ = some (.int .i64 (t : Int)) ∧ u.cell? ⟨wr.heap.size, 0, none⟩ = some (.int .i64 (f : Int))) wx5) := ⟨SN5.out.c0, SN5.out.e1, SN5.out.e0⟩
                        have qg5 : ∀ u : Nat, wx5.frozen? ⟨w.heap.size + 1, u, none⟩ = false := SN5.out.fz
                        have qh5 : wx5.cell? ⟨w.heap.size + 1, 1, none⟩ = some (vs 0) := KB5.out.1
                        clear hown hgrow hat hlt
                        refine hK.out _ _ (fun hz => by rw [hS5]; exact KB5.out) (fun hH => ?_)
                        have hHeld := hH (by omega)
                        clear hK K hH
                        refine till_one (i := 11) rfl (by kernel_rfl) (fun K hK => ?_)
                        go_simp
                        refine hK.out _ _ (fun hz => by rw [hS5]; exact KB5.out) (fun hH => ?_)
                        have hHeld := hH (by omega)
                        clear hK K hH
                        refine till_take (i := 12) (v := ?v5_12) rfl (by kernel_rfl) (by kernel_rfl) (by kernel_rfl) (by kernel_rfl) (fun _ _ _ h => h) (Or.inl ⟨by rfl, ?hy5_12⟩) (by assumption) ?rest5_12
                        case hy5_12 =>
                          intro u hSw
                          rw [hS5] at hSw; obtain ⟨x0_, x1_, x2_⟩ := hSw
                          go_simp
                          try with_reducible rfl
                        case rest5_12 =>
                          simp only [List.getElem_toArray, List.getElem_cons_zero, List.getElem_cons_succ, Act.put, List.setIfInBounds_toArray, List.set_cons_zero, List.set_cons_succ]
                          refine till_one (i := 13) rfl (by kernel_rfl) (fun K hK => ?_)
                          go_simp
                          refine hK.out _ _ (fun hz => absurd rfl hz) (fun hH => ?_)
                          clear hK K hH
                          refine till_done (by kernel_rfl) ?_ _
                          go_wp2_with fail
                          have Q6 : Hid (RS (wx5.setCell ⟨w.heap.size + 1, 1, none⟩ (.slice (some ⟨g5, 0, none⟩) (x0.length + 2) cap5)) w.heap.size (w.heap.size + 1) 1 w.heap.size n wr.heap.size 63 (upd vs 0 (.slice (some ⟨g5, 0, none⟩) (x0.length + 2) cap5)) (mapR n vs) (.slice (some ⟨g5, 0, none⟩) (x0.length + 2) cap5) (vs 1) (upd X0 0 (x0 ++ [(t : Int), (f : Int)])) f t c) := SN5.out.st mfState_ne.1 mfState_ne.2 (by omega) _ 0 (by omega)
                          have HB6 : Hid (Below w.heap.size w (wx5.setCell ⟨w.heap.size + 1, 1, none⟩ (.slice (some ⟨g5, 0, none⟩) (x0.length + 2) cap5))) := HN5.out.setCell (by show w.heap.size ≤ w.heap.size + 1; omega) _
                          have HN6 : Hid ((wx5.setCell ⟨w.heap.size + 1, 1, none⟩ (.slice (some ⟨g5, 0, none⟩) (x0.length + 2) cap5)).cell? ⟨w.heap.size + 1, 0, none⟩ = some (.int .i64 n)) := by show _ = _; rw [cell_off _ _ _ _ _ (by omega), NG5.out]; exact HNa.out
                          have z6 : wr.heap.size < (wx5.setCell ⟨w.heap.size + 1, 1, none⟩ (.slice (some ⟨g5, 0, none⟩) (x0.length + 2) cap5)).heap.size := by have := HZ5.out; simp; omega
                          have R1 : Hid (Row (wx5.setCell ⟨w.heap.size + 1, 1, none⟩ (.slice (some ⟨g5, 0, none⟩) (x0.length + 2) cap5)) w.heap.size (vs 1) x1) := by
                            have h := Q6.out.fam.row 1 (by omega)
                            rw [upd_far _ _ (show 1 ≠ 0 by omega), upd_far _ _ (show 1 ≠ 0 by omega), HX1.out] at h
                            exact h
                          clear SN5 HN5 KB5 qg5 qh5 HR5 HZ5 NG5 S1 HBa HNa KA5 KD5 HW5 hS5 za R0
                          generalize wx5.setCell ⟨w.heap.size + 1, 1, none⟩ (.slice (some ⟨g5, 0, none⟩) (x0.length + 2) cap5) = w6 at *
                          have KA6 : Hid (∀ u, Below w6.heap.size w6 u → (fun u => u.cell? ⟨w.heap.size + 1, 2, none⟩ = some (vs 1) ∧ u.cell? ⟨wr.heap.size, 2, none⟩ = some (.int .i64 c)) u) := fun u hu => by
                            have h := Q6.out.below hu
                            exact ⟨h.c1, h.e2⟩
                          have KD6 : Hid (Below w6.heap.size w6 w6.drew) := (Below.refl _ _).drew
                          have HW6 : Hid (w.heap.size ≤ w6.heap.size) := HB6.out.size
                          obtain ⟨S6, hS6⟩ : ∃ S : World → Prop, S = (fun u => u.cell? ⟨w.heap.size + 1, 2, none⟩ = some (vs 1) ∧ u.cell? ⟨wr.heap.size, 2, none⟩ = some (.int .i64 c)) := ⟨_, rfl⟩
                          refine region_till S6 11 (by kernel_rfl) (by rw [hS6]; exact KA6.out _ KD6.out) (fun hHeld => ?_)
                          refine till_take (i := 0) (v := ?v6_0) rfl (by kernel_rfl) (by kernel_rfl) (by kernel_rfl) (by kernel_rfl) (fun _ _ _ h => h) (Or.inl ⟨by rfl, ?hy6_0⟩) (by assumption) ?rest6_0
                          case hy6_0 =>
                            intro u hSw
                            rw [hS6] at hSw; obtain ⟨x0_, x1_⟩ := hSw
                            go_simp
                            try with_reducible rfl
                          case rest6_0 =>
                            refine till_take (i := 1) (v := ?v6_1) rfl (by kernel_rfl) (by kernel_rfl) (by kernel_rfl) (by kernel_rfl) (fun _ _ _ h => h) (Or.inl ⟨by rfl, ?hy6_1⟩) (by assumption) ?rest6_1
                            case hy6_1 =>
                              intro u hSw
                              rw [hS6] at hSw; obtain ⟨x0_, x1_⟩ := hSw
                              go_simp
                              try with_reducible rfl
                            case rest6_1 =>
                              refine till_take (i := 2) (v := ?v6_2) rfl (by kernel_rfl) (by kernel_rfl) (by kernel_rfl) (by kernel_rfl) (fun _ _ _ h => h) (Or.inl ⟨by rfl, ?hy6_2⟩) (by assumption) ?rest6_2
                              case hy6_2 =>
                                intro u hSw
                                rw [hS6] at hSw; obtain ⟨x0_, x1_⟩ := hSw
                                go_simp
                                try with_reducible rfl
                              case rest6_2 =>
                                refine till_take (i := 3) (v := ?v6_3) rfl (by kernel_rfl) (by kernel_rfl) (by kernel_rfl) (by kernel_rfl) (fun _ _ _ h => h) (Or.inl ⟨by rfl, ?hy6_3⟩) (by assumption) ?rest6_3
                                case hy6_3 =>
                                  intro u hSw
                                  rw [hS6] at hSw; obtain ⟨x0_, x1_⟩ := hSw
                                  go_simp
                                  try with_reducible rfl
                                case rest6_3 =>
                                  refine till_take (i := 4) (v := ?v6_4) rfl (by kernel_rfl) (by kernel_rfl) (by kernel_rfl) (by kernel_rfl) (fun _ _ _ h => h) (Or.inl ⟨by rfl, ?hy6_4⟩) (by assumption) ?rest6_4
                                  case hy6_4 =>
                                    intro u hSw
                                    rw [hS6] at hSw; obtain ⟨x0_, x1_⟩ := hSw
                                    go_simp
                                    try with_reducible rfl
                                  case rest6_4 =>
                                    refine till_take (i := 5) (v := ?v6_5) rfl (by kernel_rfl) (by kernel_rfl) (by kernel_rfl) (by kernel_rfl) (fun _ _ _ h => h) (Or.inl ⟨by rfl, ?hy6_5⟩) (by assumption) ?rest6_5
                                    case hy6_5 =>
                                      intro u hSw
                                      rw [hS6] at hSw; obtain ⟨x0_, x1_⟩ := hSw
                                      go_simp
                                      try with_reducible rfl
                                    case rest6_5 =>
                                      refine till_take (i := 6) (v := ?v6_6) rfl (by kernel_rfl) (by kernel_rfl) (by kernel_rfl) (by kernel_rfl) (fun _ _ _ h => h) (Or.inl ⟨by rfl, ?hy6_6⟩) (by assumption) ?rest6_6
                                      case hy6_6 =>
                                        intro u hSw
                                        rw [hS6] at hSw; obtain ⟨x0_, x1_⟩ := hSw
                                        go_simp
                                        try with_reducible rfl
                                      case rest6_6 =>
                                        simp only [List.getElem_toArray, List.getElem_cons_zero, List.getElem_cons_succ, Act.put, List.setIfInBounds_toArray, List.set_cons_zero, List.set_cons_succ]
                                        refine till_one (i := 7) rfl (by kernel_rfl) (fun K hK => ?_)
                                        go_simp
                                        refine hK.out _ _ (fun hz => by rw [hS6]; exact KA6.out _ ((Below.refl _ _).drew.alloc (Nat.le_refl _) _)) (fun hH => ?_)
                                        have hHeld := hH (by omega)
                                        clear hK K hH
                                        refine till_one (i := 8) rfl (by kernel_rfl) (fun K hK => ?_)
                                        refine step_append_lies _ rfl _ _ 23 (by rfl) w.heap.size 3 i0 (.int .i64 0) 1 8 Try.underlying23 HI.out hz0 hz1 hz2 rfl (by decide) _ _ _ (by rfl) (World.ownsRow.alloc R1.out _) ⟨w6.heap.size, 0, none⟩ 2 2 [.int .i64 c, .int .i64 0] (by rfl) (by rfl) (news_two (by simp) (by simp)) (ones_two _ _) (by omega) (by have := HL1.out; unfold maxLen; omega) (by have := HL1.out; omega) (by have := HW6.out; simp; omega) (w6.heap.size + 1) (by simp) ?_
                                        intro g6 cap6 wx6 hown hgrow hat hlt
                                        have HR6 : Hid (Row wx6 w.heap.size (.slice (some ⟨g6, 0, none⟩) (x1.length + 2) cap6) (x1 ++ [(c : Int), (0 : Int)])) := row_two hown rfl
                                        have SN6 := Lib.hid ((Q6.out.below ((Below.refl _ _).drew.alloc (Nat.le_refl _) _)).app mfState_ne.1 (i := 1) (by omega) HR6.out hgrow (at_new hat (by simp)))
                                        have NG6 : Hid (∀ j, wx6.cell? ⟨w.heap.size + 1, j, none⟩ = w6.cell? ⟨w.heap.size + 1, j, none⟩) := fun j => by
                                          have hb : Below w6.heap.size w6 (w6.drew.alloc (.cells #[.int .i64 c, .int .i64 0] 3)) := (Below.refl _ _).drew.alloc (Nat.le_refl _) _
                                          exact (hgrow.cell_far ⟨w.heap.size + 1, j, none⟩ (Nat.lt_of_lt_of_le Q6.out.ty.lt hb.size) (fun e => own_off R1.out Q6.out.ty mfState_ne.1 e.symm)).trans (hb.cell (p := ⟨w.heap.size + 1, j, none⟩) Q6.out.ty.lt)
                                        have HNx6 : Hid (Below w.heap.size w wx6) := (HB6.out.drew.alloc HW6.out _).grown hgrow (by have := HW6.out; simp; omega) (fun g hg => (World.ownsRow.lt R1.out g hg).1)
                                        have HZ6 : Hid (w6.heap.size ≤ wx6.heap.size) := Nat.le_trans (Nat.le_add_right _ 1) (by have := hgrow.size; simpa using this)
                                        have KB6 : Hid ((fun u => u.cell? ⟨w.heap.size + 1, 2, none⟩ = some (vs 1) ∧ u.cell? ⟨wr.heap.size, 2, none⟩ = some (.int .i64 c)) wx6) := ⟨SN6.out.c1, SN6.out.e2⟩
                                        have qg6 : ∀ u : Nat, wx6.frozen? ⟨w.heap.size + 1, u, none⟩ = false := SN6.out.fz
                                        have qh6 : wx6.cell? ⟨w.heap.size + 1, 2, none⟩ = some (vs 1) := KB6.out.1
                                        clear hown hgrow hat hlt
                                        refine hK.out _ _ (fun hz => by rw [hS6]; exact KB6.out) (fun hH => ?_)
                                        have hHeld := hH (by omega)
                                        clear hK K hH
                                        refine till_one (i := 9) rfl (by kernel_rfl) (fun K hK => ?_)
                                        go_simp
                                        refine hK.out _ _ (fun hz => by rw [hS6]; exact KB6.out) (fun hH => ?_)
                                        have hHeld := hH (by omega)
                                        clear hK K hH
                                        refine till_take (i := 10) (v := ?v6_10) rfl (by kernel_rfl) (by kernel_rfl) (by kernel_rfl) (by kernel_rfl) (fun _ _ _ h => h) (Or.inl ⟨by rfl, ?hy6_10⟩) (by assumption) ?rest6_10
                                        case hy6_10 =>
                                          intro u hSw
                                          rw [hS6] at hSw; obtain ⟨x0_, x1_⟩ := hSw
                                          go_simp
                                          try with_reducible rfl
                                        case rest6_10 =>
                                          simp only [List.getElem_toArray, List.getElem_cons_zero, List.getElem_cons_succ, Act.put, List.setIfInBounds_toArray, List.set_cons_zero, List.set_cons_succ]
                                          refine till_one (i := 11) rfl (by kernel_rfl) (fun K hK => ?_)
                                          go_simp
                                          refine hK.out _ _ (fun hz => absurd rfl hz) (fun hH => ?_)
                                          clear hK K hH
                                          refine till_done (by kernel_rfl) ?_ _
                                          go_wp2_with fail
                                          have S8 : Hid (RS (wx6.setCell ⟨w.heap.size + 1, 2, none⟩ (.slice (some ⟨g6, 0, none⟩) (x1.length + 2) cap6)) w.heap.size (w.heap.size + 1) 1 w.heap.size n wr.heap.size 63 (upd (upd vs 0 (.slice (some ⟨g5, 0, none⟩) (x0.length + 2) cap5)) 1 (.slice (some ⟨g6, 0, none⟩) (x1.length + 2) cap6)) (mapR n vs) (.slice (some ⟨g5, 0, none⟩) (x0.length + 2) cap5) (.slice (some ⟨g6, 0, none⟩) (x1.length + 2) cap6) (upd (upd X0 0 (x0 ++ [(t : Int), (f : Int)])) 1 (x1 ++ [c, 0])) f t c) := SN6.out.st mfState_ne.1 mfState_ne.2 (by omega) _ 1 (by omega)
                                          have HB8 : Hid (Below w.heap.size w (wx6.setCell ⟨w.heap.size + 1, 2, none⟩ (.slice (some ⟨g6, 0, none⟩) (x1.length + 2) cap6))) := HNx6.out.setCell (by show w.heap.size ≤ w.heap.size + 1; omega) _
                                          have HN8 : Hid ((wx6.setCell ⟨w.heap.size + 1, 2, none⟩ (.slice (some ⟨g6, 0, none⟩) (x1.length + 2) cap6)).cell? ⟨w.heap.size + 1, 0, none⟩ = some (.int .i64 n)) := by show _ = _; rw [cell_off _ _ _ _ _ (by omega), NG6.out]; exact HN6.out
                                          have z9 : wr.heap.size < (wx6.setCell ⟨w.heap.size + 1, 2, none⟩ (.slice (some ⟨g6, 0, none⟩) (x1.length + 2) cap6)).heap.size := by have := HZ6.out; simp; omega
                                          have S9 : Hid (∃ V2 : Nat → Value, ∃ X2 : Nat → List Int, X2 = upd (upd X0 0 (x0 ++ [(t : Int), (f : Int)])) 1 (x1 ++ [c, 0]) ∧ RS (wx6.setCell ⟨w.heap.size + 1, 2, none⟩ (.slice (some ⟨g6, 0, none⟩) (x1.length + 2) cap6)) w.heap.size (w.heap.size + 1) 1 w.heap.size n wr.heap.size 63 V2 (mapR n V2) (V2 0) (V2 1) X2 f t c) := by
                                            refine ⟨upd (upd vs 0 (.slice (some ⟨g5, 0, none⟩) (x0.length + 2) cap5)) 1 (.slice (some ⟨g6, 0, none⟩) (x1.length + 2) cap6), _, rfl, ?_⟩
                                            have := S8.out
                                            rw [mapR_low _ _ (show 1 < 2 by omega), mapR_low _ _ (show 0 < 2 by omega), upd_far _ _ (show 0 ≠ 1 by omega), upd_same, upd_same]
                                            exact this
                                          obtain ⟨V2, X2, eX, s9⟩ := S9.out
                                          clear S9
                                          have S9 := Lib.hid s9
                                          rw [← eX] at HX HT HF
                                          clear s9 eX S8 SN6 HN6 HNx6 KB6 qg6 qh6 HR6 HZ6 NG6 Q6 HB6 KA6 KD6 HW6 hS6 z6 R1 HL0 HL1
                                          generalize wx6.setCell ⟨w.heap.size + 1, 2, none⟩ (.slice (some ⟨g6, 0, none⟩) (x1.length + 2) cap6) = w8 at *
                                          have HRf : Hid (Row w8 w.heap.size (V2 (f + 2)) lf) := by rw [← HF.out]; exact S9.out.fam.row (f + 2) (by omega)
                                          have KA7 : Hid (∀ u, Below w8.heap.size w8 u → (fun u => u.cell? ⟨w.heap.size + 1, 3, none⟩ = some (.slice (some ⟨w.heap.size, 0, none⟩) n n) ∧ u.cell? ⟨wr.heap.size, 0, none⟩ = some (.int .i64 (f : Int)) ∧ u.cell? ⟨w.heap.size, f, none⟩ = some (V2 (f + 2))) u) := fun u hu => by
                                            have h := S9.out.below hu
                                            exact ⟨h.c2, h.e0, own_at h.own (by omega)⟩
                                          have KD7 : Hid (Below w8.heap.size w8 w8.drew) := (Below.refl _ _).drew
                                          have HW7 : Hid (w.heap.size ≤ w8.heap.size) := HB8.out.size
                                          have n07 : (0 : Int) ≤ (f : Int) := by omega
                                          have n17 : (f : Int) < (n : Int) := by omega
                                          have hw7 : IntKind.i64.wrap (2 * (k : Int)) = 2 * (k : Int) := IntWalk.i64_in _ (by omega)
                                          obtain ⟨S7, hS7⟩ : ∃ S : World → Prop, S = (fun u => u.cell? ⟨w.heap.size + 1, 3, none⟩ = some (.slice (some ⟨w.heap.size, 0, none⟩) n n) ∧ u.cell? ⟨wr.heap.size, 0, none⟩ = some (.int .i64 (f : Int)) ∧ u.cell? ⟨w.heap.size, f, none⟩ = some (V2 (f + 2))) := ⟨_, rfl⟩
                                          refine region_till S7 19 (by kernel_rfl) (by rw [hS7]; exact KA7.out _ KD7.out) (fun hHeld => ?_)
                                          refine till_take (i := 0) (v := ?v7_0) rfl (by kernel_rfl) (by kernel_rfl) (by kernel_rfl) (by kernel_rfl) (fun _ _ _ h => h) (Or.inl ⟨by rfl, ?hy7_0⟩) (by assumption) ?rest7_0
                                          case hy7_0 =>
                                            intro u hSw
                                            rw [hS7] at hSw; obtain ⟨x1, x2, x3⟩ := hSw
                                            go_simp
                                            try with_reducible rfl
                                          case rest7_0 =>
                                            refine till_take (i := 1) (v := ?v7_1) rfl (by kernel_rfl) (by kernel_rfl) (by kernel_rfl) (by kernel_rfl) (fun _ _ _ h => h) (Or.inl ⟨by rfl, ?hy7_1⟩) (by assumption) ?rest7_1
                                            case hy7_1 =>
                                              intro u hSw
                                              rw [hS7] at hSw; obtain ⟨x1, x2, x3⟩ := hSw
                                              go_simp
                                              try with_reducible rfl
                                            case rest7_1 =>
                                              refine till_take (i := 2) (v := ?v7_2) rfl (by kernel_rfl) (by kernel_rfl) (by kernel_rfl) (by kernel_rfl) (fun _ _ _ h => h) (Or.inl ⟨by rfl, ?hy7_2⟩) (by assumption) ?rest7_2
                                              case hy7_2 =>
                                                intro u hSw
                                                rw [hS7] at hSw; obtain ⟨x1, x2, x3⟩ := hSw
                                                go_simp
                                                try with_reducible rfl
                                              case rest7_2 =>
                                                refine till_take (i := 3) (v := ?v7_3) rfl (by kernel_rfl) (by kernel_rfl) (by kernel_rfl) (by kernel_rfl) (fun _ _ _ h => h) (Or.inl ⟨by rfl, ?hy7_3⟩) (by assumption) ?rest7_3
                                                case hy7_3 =>
                                                  intro u hSw
                                                  rw [hS7] at hSw; obtain ⟨x1, x2, x3⟩ := hSw
                                                  go_simp
                                                  try with_reducible rfl
                                                case rest7_3 =>
                                                  refine till_take (i := 4) (v := ?v7_4) rfl (by kernel_rfl) (by kernel_rfl) (by kernel_rfl) (by kernel_rfl) (fun _ _ _ h => h) (Or.inl ⟨by rfl, ?hy7_4⟩) (by assumption) ?rest7_4
                                                  case hy7_4 =>
                                                    intro u hSw
                                                    rw [hS7] at hSw; obtain ⟨x1, x2, x3⟩ := hSw
                                                    go_simp
                                                    try with_reducible rfl
                                                  case rest7_4 =>
                                                    refine till_take (i := 5) (v := ?v7_5) rfl (by kernel_rfl) (by kernel_rfl) (by kernel_rfl) (by kernel_rfl) (fun _ _ _ h => h) (Or.inl ⟨by rfl, ?hy7_5⟩) (by assumption) ?rest7_5
                                                    case hy7_5 =>
                                                      intro u hSw
                                                      rw [hS7] at hSw; obtain ⟨x1, x2, x3⟩ := hSw
                                                      go_simp
                                                      try with_reducible rfl
                                                    case rest7_5 =>
                                                      refine till_take (i := 6) (v := ?v7_6) rfl (by kernel_rfl) (by kernel_rfl) (by kernel_rfl) (by kernel_rfl) (fun _ _ _ h => h) (Or.inl ⟨by rfl, ?hy7_6⟩) (by assumption) ?rest7_6
                                                      case hy7_6 =>
                                                        intro u hSw
                                                        rw [hS7] at hSw; obtain ⟨x1, x2, x3⟩ := hSw
                                                        go_simp
                                                        try with_reducible rfl
                                                      case rest7_6 =>
                                                        refine till_take (i := 7) (v := ?v7_7) rfl (by kernel_rfl) (by kernel_rfl) (by kernel_rfl) (by kernel_rfl) (fun _ _ _ h => h) (Or.inl ⟨by rfl, ?hy7_7⟩) (by assumption) ?rest7_7
                                                        case hy7_7 =>
                                                          intro u hSw
                                                          rw [hS7] at hSw; obtain ⟨x1, x2, x3⟩ := hSw
                                                          go_simp
                                                          try with_reducible rfl
                                                        case rest7_7 =>
                                                          refine till_take (i := 8) (v := ?v7_8) rfl (by kernel_rfl) (by kernel_rfl) (by kernel_rfl) (by kernel_rfl) (fun _ _ _ h => h) (Or.inl ⟨by rfl, ?hy7_8⟩) (by assumption) ?rest7_8
                                                          case hy7_8 =>
                                                            intro u hSw
                                                            rw [hS7] at hSw; obtain ⟨x1, x2, x3⟩ := hSw
                                                            go_simp
                                                            try with_reducible rfl
                                                          case rest7_8 =>
                                                            refine till_take (i := 9) (v := ?v7_9) rfl (by kernel_rfl) (by kernel_rfl) (by kernel_rfl) (by kernel_rfl) (fun _ _ _ h => h) (Or.inl ⟨by rfl, ?hy7_9⟩) (by assumption) ?rest7_9
                                                            case hy7_9 =>
                                                              intro u hSw
                                                              rw [hS7] at hSw; obtain ⟨x1, x2, x3⟩ := hSw
                                                              go_simp
                                                              try with_reducible rfl
                                                            case rest7_9 =>
                                                              refine till_take (i := 10) (v := ?v7_10) rfl (by kernel_rfl) (by kernel_rfl) (by kernel_rfl) (by kernel_rfl) (fun _ _ _ h => h) (Or.inl ⟨by rfl, ?hy7_10⟩) (by assumption) ?rest7_10
                                                              case hy7_10 =>
                                                                intro u hSw
                                                                rw [hS7] at hSw; obtain ⟨x1, x2, x3⟩ := hSw
                                                                go_simp
                                                                try with_reducible rfl
                                                              case rest7_10 =>
                                                                refine till_take (i := 11) (v := ?v7_11) rfl (by kernel_rfl) (by kernel_rfl) (by kernel_rfl) (by kernel_rfl) (fun _ _ _ h => h) (Or.inl ⟨by rfl, ?hy7_11⟩) (by assumption) ?rest7_11
                                                                case hy7_11 =>
                                                                  intro u hSw
                                                                  rw [hS7] at hSw; obtain ⟨x1, x2, x3⟩ := hSw
                                                                  go_simp
                                                                  try with_reducible rfl
                                                                case rest7_11 =>
                                                                  refine till_take (i := 12) (v := ?v7_12) rfl (by kernel_rfl) (by kernel_rfl) (by kernel_rfl) (by kernel_rfl) (fun _ _ _ h => h) (Or.inl ⟨by rfl, ?hy7_12⟩) (by assumption) ?rest7_12
                                                                  case hy7_12 =>
                                                                    intro u hSw
                                                                    rw [hS7] at hSw; obtain ⟨x1, x2, x3⟩ := hSw
                                                                    go_simp
                                                                    try with_reducible rfl
                                                                  case rest7_12 =>
                                                                    refine till_take (i := 13) (v := ?v7_13) rfl (by kernel_rfl) (by kernel_rfl) (by kernel_rfl) (by kernel_rfl) (fun _ _ _ h => h) (Or.inl ⟨by rfl, ?hy7_13⟩) (by assumption) ?rest7_13
                                                                    case hy7_13 =>
                                                                      intro u hSw
                                                                      rw [hS7] at hSw; obtain ⟨x1, x2, x3⟩ := hSw
                                                                      go_simp
                                                                      try with_reducible rfl
                                                                    case rest7_13 =>
                                                                      refine till_take (i := 14) (v := ?v7_14) rfl (by kernel_rfl) (by kernel_rfl) (by kernel_rfl) (by kernel_rfl) (fun _ _ _ h => h) (Or.inl ⟨by rfl, ?hy7_14⟩) (by assumption) ?rest7_14
                                                                      case hy7_14 =>
                                                                        intro u hSw
                                                                        rw [hS7] at hSw; obtain ⟨x1, x2, x3⟩ := hSw
                                                                        go_simp
                                                                        try with_reducible rfl
                                                                      case rest7_14 =>
                                                                        refine till_take (i := 15) (v := ?v7_15) rfl (by kernel_rfl) (by kernel_rfl) (by kernel_rfl) (by kernel_rfl) (fun _ _ _ h => h) (Or.inl ⟨by rfl, ?hy7_15⟩) (by assumption) ?rest7_15
                                                                        case hy7_15 =>
                                                                          intro u hSw
                                                                          rw [hS7] at hSw; obtain ⟨x1, x2, x3⟩ := hSw
                                                                          go_simp
                                                                          try with_reducible rfl
                                                                        case rest7_15 =>
                                                                          simp only [List.getElem_toArray, List.getElem_cons_zero, List.getElem_cons_succ, Act.put, List.setIfInBounds_toArray, List.set_cons_zero, List.set_cons_succ]
                                                                          refine till_one (i := 16) rfl (by kernel_rfl) (fun K hK => ?_)
                                                                          go_simp
                                                                          refine hK.out _ _ (fun hz => by rw [hS7]; exact KA7.out _ ((Below.refl _ _).drew.alloc (Nat.le_refl _) _)) (fun hH => ?_)
                                                                          have hHeld := hH (by omega)
                                                                          clear hK K hH
                                                                          refine till_one (i := 17) rfl (by kernel_rfl) (fun K hK => ?_)
                                                                          refine step_append_lies _ rfl _ _ 23 (by rfl) w.heap.size 3 i0 (.int .i64 0) 1 8 Try.underlying23 HI.out hz0 hz1 hz2 rfl (by decide) _ _ _ (by rfl) (World.ownsRow.alloc HRf.out _) ⟨w8.heap.size, 0, none⟩ 1 1 [.int .i64 (2 * (k : Int))] (by rfl) (by rfl) (news_one (by simp)) (ones_one _) (by omega) (by have := HLf.out; unfold maxLen; omega) (by have := HLf.out; omega) (by have := HW7.out; simp; omega) (w8.heap.size + 1) (by simp) ?_
                                                                          intro g7 cap7 wx7 hown hgrow hat hlt
                                                                          have HR7 : Hid (Row wx7 w.heap.size (.slice (some ⟨g7, 0, none⟩) (lf.length + 1) cap7) (lf ++ [2 * (k : Int)])) := row_one hown rfl
                                                                          have SN7 := Lib.hid ((S9.out.below ((Below.refl _ _).drew.alloc (Nat.le_refl _) _)).app mfState_ne.1 (i := f + 2) (by omega) HR7.out hgrow (at_new hat (by simp)))
                                                                          have NG7 : Hid (∀ j, wx7.cell? ⟨w.heap.size + 1, j, none⟩ = w8.cell? ⟨w.heap.size + 1, j, none⟩) := fun j => by
                                                                            have hb : Below w8.heap.size w8 (w8.drew.alloc (.cells #[.int .i64 (2 * (k : Int))] 3)) := (Below.refl _ _).drew.alloc (Nat.le_refl _) _
                                                                            exact (hgrow.cell_far ⟨w.heap.size + 1, j, none⟩ (Nat.lt_of_lt_of_le S9.out.ty.lt hb.size) (fun e => own_off HRf.out S9.out.ty mfState_ne.1 e.symm)).trans (hb.cell (p := ⟨w.heap.size + 1, j, none⟩) S9.out.ty.lt)
                                                                          have HN7 : Hid (Below w.heap.size w wx7) := (HB8.out.drew.alloc HB8.out.size _).grown hgrow (by have := HW7.out; simp; omega) (fun g hg => (World.ownsRow.lt HRf.out g hg).1)
                                                                          have HZ7 : Hid (w8.heap.size ≤ wx7.heap.size) := Nat.le_trans (Nat.le_add_right _ 1) (by have := hgrow.size; simpa using this)
                                                                          have KB7 : Hid ((fun u => u.cell? ⟨w.heap.size + 1, 3, none⟩ = some (.slice (some ⟨w.heap.size, 0, none⟩) n n) ∧ u.cell? ⟨wr.heap.size, 0, none⟩ = some (.int .i64 (f : Int)) ∧ u.cell? ⟨w.heap.size, f, none⟩ = some (V2 (f + 2))) wx7) := ⟨SN7.out.c2, SN7.out.e0, own_at SN7.out.own (by have := n17; omega)⟩
                                                                          have qg7 : ∀ u : Nat, wx7.frozen? ⟨w.heap.size, u, none⟩ = false := own_fz SN7.out.own
                                                                          have qh7 : wx7.cell? ⟨w.heap.size, f, none⟩ = some (V2 (f + 2)) := KB7.out.2.2
                                                                          clear hown hgrow hat hlt
                                                                          refine hK.out _ _ (fun hz => by rw [hS7]; exact KB7.out) (fun hH => ?_)
                                                                          have hHeld := hH (by omega)
                                                                          clear hK K hH
                                                                          refine till_take (i := 18) (v := ?v7_18) rfl (by kernel_rfl) (by kernel_rfl) (by kernel_rfl) (by kernel_rfl) (fun _ _ _ h => h) (Or.inl ⟨by rfl, ?hy7_18⟩) (by assumption) ?rest7_18
                                                                          case hy7_18 =>
                                                                            intro u hSw
                                                                            rw [hS7] at hSw; obtain ⟨x1, x2, x3⟩ := hSw
                                                                            go_simp
                                                                            try with_reducible rfl
                                                                          case rest7_18 =>
                                                                            simp only [List.getElem_toArray, List.getElem_cons_zero, List.getElem_cons_succ, Act.put, List.setIfInBounds_toArray, List.set_cons_zero, List.set_cons_succ]
                                                                            refine till_one (i := 19) rfl (by kernel_rfl) (fun K hK => ?_)
                                                                            go_simp
                                                                            refine hK.out _ _ (fun hz => absurd rfl hz) (fun hH => ?_)
                                                                            clear hK K hH
                                                                            refine till_done (by kernel_rfl) ?_ _
                                                                            go_wp2_with fail
                                                                            have es : RS (wx7.setCell ⟨w.heap.size, f, none⟩ (.slice (some ⟨g7, 0, none⟩) (lf.length + 1) cap7)) w.heap.size (w.heap.size + 1) 1 w.heap.size n wr.heap.size 63 (upd V2 (f + 2) (.slice (some ⟨g7, 0, none⟩) (lf.length + 1) cap7)) (mapR n (upd V2 (f + 2) (.slice (some ⟨g7, 0, none⟩) (lf.length + 1) cap7))) (upd V2 (f + 2) (.slice (some ⟨g7, 0, none⟩) (lf.length + 1) cap7) 0) (upd V2 (f + 2) (.slice (some ⟨g7, 0, none⟩) (lf.length + 1) cap7) 1) (upd X2 (f + 2) (lf ++ [2 * (k : Int)])) f t c := by
                                                                              have := SN7.out.stl mfState_ne.2 (.slice (some ⟨g7, 0, none⟩) (lf.length + 1) cap7) f
                                                                              rw [mapR_set _ _ d0] at this
                                                                              rw [upd_far _ _ (show 0 ≠ f + 2 by omega), upd_far _ _ (show 1 ≠ f + 2 by omega)]
                                                                              exact this
                                                                            have S11 := Lib.hid es
                                                                            have HB11 : Hid (Below w.heap.size w (wx7.setCell ⟨w.heap.size, f, none⟩ (.slice (some ⟨g7, 0, none⟩) (lf.length + 1) cap7))) := HN7.out.setCell (Nat.le_refl _) _
                                                                            have z11 : wr.heap.size < (wx7.setCell ⟨w.heap.size, f, none⟩ (.slice (some ⟨g7, 0, none⟩) (lf.length + 1) cap7)).heap.size := by have := HZ7.out; simp; omega
                                                                            have HN11 : Hid ((wx7.setCell ⟨w.heap.size, f, none⟩ (.slice (some ⟨g7, 0, none⟩) (lf.length + 1) cap7)).cell? ⟨w.heap.size + 1, 0, none⟩ = some (.int .i64 n)) := by show _ = _; rw [World.cell?_setCell_far _ _ _ _ (show w.heap.size ≠ w.heap.size + 1 by omega), NG7.out]; exact HN8.out
                                                                            clear es NG7 HN8 SN7 HN7 KB7 qg7 qh7 HR7 HZ7 S9 HB8 KA7 KD7 HW7 z9 HRf hS7 n07 n17
                                                                            generalize wx7.setCell ⟨w.heap.size, f, none⟩ (.slice (some ⟨g7, 0, none⟩) (lf.length + 1) cap7) = w10 at *
                                                                            generalize upd V2 (f + 2) (.slice (some ⟨g7, 0, none⟩) (lf.length + 1) cap7) = V3 at *
                                                                            generalize upd X2 (f + 2) (lf ++ [2 * (k : Int)]) = X3 at *
                                                                            have HL2 : Hid ((if f = t then lf ++ [2 * (k : Int)] else lt).length ≤ 16001) := by
                                                                              show _ ≤ _
                                                                              have h1 := HLf.out
                                                                              have h2 := HLt.out
                                                                              split
                                                                              · rw [List.length_append, List.length_singleton]; omega
                                                                              · omega
                                                                            generalize (if f = t then lf ++ [2 * (k : Int)] else lt) = l2 at *
                                                                            have HR2 : Hid (Row w10 w.heap.size (V3 (t + 2)) l2) := by rw [← HT.out]; exact S11.out.fam.row (t + 2) (by omega)
                                                                            clear HLf HLt HF HT
                                                                            have hwm : IntKind.i64.wrap (2 * (k : Int)) = 2 * (k : Int) := IntWalk.i64_in _ (by omega)
                                                                            have KA8 : Hid (∀ u, Below w10.heap.size w10 u → (fun u => u.cell? ⟨w.heap.size + 1, 3, none⟩ = some (.slice (some ⟨w.heap.size, 0, none⟩) n n) ∧ u.cell? ⟨wr.heap.size, 1, none⟩ = some (.int .i64 (t : Int)) ∧ u.cell? ⟨w.heap.size, t, none⟩ = some (V3 (t + 2))) u) := fun u hu => by
                                                                              have h := S11.out.below hu
                                                                              exact ⟨h.c2, h.e1, own_at h.own (by omega)⟩
                                                                            have KD8 : Hid (Below w10.heap.size w10 w10.drew) := (Below.refl _ _).drew
                                                                            have HW8 : Hid (w.heap.size ≤ w10.heap.size) := HB11.out.size
                                                                            have n08 : (0 : Int) ≤ (t : Int) := by omega
                                                                            have n18 : (t : Int) < (n : Int) := by omega
                                                                            have hw8 : IntKind.i64.wrap (2 * (k : Int) + 1) = 2 * (k : Int) + 1 := IntWalk.i64_in _ (by omega)
                                                                            obtain ⟨S8, hS8⟩ : ∃ S : World → Prop, S = (fun u => u.cell? ⟨w.heap.size + 1, 3, none⟩ = some (.slice (some ⟨w.heap.size, 0, none⟩) n n) ∧ u.cell? ⟨wr.heap.size, 1, none⟩ = some (.int .i64 (t : Int)) ∧ u.cell? ⟨w.heap.size, t, none⟩ = some (V3 (t + 2))) := ⟨_, rfl⟩
                                                                            refine region_till S8 20 (by kernel_rfl) (by rw [hS8]; exact KA8.out _ KD8.out) (fun hHeld => ?_)
                                                                            refine till_take (i := 0) (v := ?v8_0) rfl (by kernel_rfl) (by kernel_rfl) (by kernel_rfl) (by kernel_rfl) (fun _ _ _ h => h) (Or.inl ⟨by rfl, ?hy8_0⟩) (by assumption) ?rest8_0
                                                                            case hy8_0 =>
                                                                              intro u hSw
                                                                              rw [hS8] at hSw; obtain ⟨x1, x2, x3⟩ := hSw
                                                                              go_simp
                                                                              try with_reducible rfl
                                                                            case rest8_0 =>
                                                                              refine till_take (i := 1) (v := ?v8_1) rfl (by kernel_rfl) (by kernel_rfl) (by kernel_rfl) (by kernel_rfl) (fun _ _ _ h => h) (Or.inl ⟨by rfl, ?hy8_1⟩) (by assumption) ?rest8_1
                                                                              case hy8_1 =>
                                                                                intro u hSw
                                                                                rw [hS8] at hSw; obtain ⟨x1, x2, x3⟩ := hSw
                                                                                go_simp
                                                                                try with_reducible rfl
                                                                              case rest8_1 =>
                                                                                refine till_take (i := 2) (v := ?v8_2) rfl (by kernel_rfl) (by kernel_rfl) (by kernel_rfl) (by kernel_rfl) (fun _ _ _ h => h) (Or.inl ⟨by rfl, ?hy8_2⟩) (by assumption) ?rest8_2
                                                                                case hy8_2 =>
                                                                                  intro u hSw
                                                                                  rw [hS8] at hSw; obtain ⟨x1, x2, x3⟩ := hSw
                                                                                  go_simp
                                                                                  try with_reducible rfl
                                                                                case rest8_2 =>
                                                                                  refine till_take (i := 3) (v := ?v8_3) rfl (by kernel_rfl) (by kernel_rfl) (by kernel_rfl) (by kernel_rfl) (fun _ _ _ h => h) (Or.inl ⟨by rfl, ?hy8_3⟩) (by assumption) ?rest8_3
                                                                                  case hy8_3 =>
                                                                                    intro u hSw
                                                                                    rw [hS8] at hSw; obtain ⟨x1, x2, x3⟩ := hSw
                                                                                    go_simp
                                                                                    try with_reducible rfl
                                                                                  case rest8_3 =>
                                                                                    refine till_take (i := 4) (v := ?v8_4) rfl (by kernel_rfl) (by kernel_rfl) (by kernel_rfl) (by kernel_rfl) (fun _ _ _ h => h) (Or.inl ⟨by rfl, ?hy8_4⟩) (by assumption) ?rest8_4
                                                                                    case hy8_4 =>
                                                                                      intro u hSw
                                                                                      rw [hS8] at hSw; obtain ⟨x1, x2, x3⟩ := hSw
                                                                                      go_simp
                                                                                      try with_reducible rfl
                                                                                    case rest8_4 =>
                                                                                      refine till_take (i := 5) (v := ?v8_5) rfl (by kernel_rfl) (by kernel_rfl) (by kernel_rfl) (by kernel_rfl) (fun _ _ _ h => h) (Or.inl ⟨by rfl, ?hy8_5⟩) (by assumption) ?rest8_5
                                                                                      case hy8_5 =>
                                                                                        intro u hSw
                                                                                        rw [hS8] at hSw; obtain ⟨x1, x2, x3⟩ := hSw
                                                                                        go_simp
                                                                                        try with_reducible rfl
                                                                                      case rest8_5 =>
                                                                                        refine till_take (i := 6) (v := ?v8_6) rfl (by kernel_rfl) (by kernel_rfl) (by kernel_rfl) (by kernel_rfl) (fun _ _ _ h => h) (Or.inl ⟨by rfl, ?hy8_6⟩) (by assumption) ?rest8_6
                                                                                        case hy8_6 =>
                                                                                          intro u hSw
                                                                                          rw [hS8] at hSw; obtain ⟨x1, x2, x3⟩ := hSw
                                                                                          go_simp
                                                                                          try with_reducible rfl
                                                                                        case rest8_6 =>
                                                                                          refine till_take (i := 7) (v := ?v8_7) rfl (by kernel_rfl) (by kernel_rfl) (by kernel_rfl) (by kernel_rfl) (fun _ _ _ h => h) (Or.inl ⟨by rfl, ?hy8_7⟩) (by assumption) ?rest8_7
                                                                                          case hy8_7 =>
                                                                                            intro u hSw
                                                                                            rw [hS8] at hSw; obtain ⟨x1, x2, x3⟩ := hSw
                                                                                            go_simp
                                                                                            try with_reducible rfl
                                                                                          case rest8_7 =>
                                                                                            refine till_take (i := 8) (v := ?v8_8) rfl (by kernel_rfl) (by kernel_rfl) (by kernel_rfl) (by kernel_rfl) (fun _ _ _ h => h) (Or.inl ⟨by rfl, ?hy8_8⟩) (by assumption) ?rest8_8
                                                                                            case hy8_8 =>
                                                                                              intro u hSw
                                                                                              rw [hS8] at hSw; obtain ⟨x1, x2, x3⟩ := hSw
                                                                                              go_simp
                                                                                              try with_reducible rfl
                                                                                            case rest8_8 =>
                                                                                              refine till_take (i := 9) (v := ?v8_9) rfl (by kernel_rfl) (by kernel_rfl) (by kernel_rfl) (by kernel_rfl) (fun _ _ _ h => h) (Or.inl ⟨by rfl, ?hy8_9⟩) (by assumption) ?rest8_9
                                                                                              case hy8_9 =>
                                                                                                intro u hSw
                                                                                                rw [hS8] at hSw; obtain ⟨x1, x2, x3⟩ := hSw
                                                                                                go_simp
                                                                                                try with_reducible rfl
                                                                                              case rest8_9 =>
                                                                                                refine till_take (i := 10) (v := ?v8_10) rfl (by kernel_rfl) (by kernel_rfl) (by kernel_rfl) (by kernel_rfl) (fun _ _ _ h => h) (Or.inl ⟨by rfl, ?hy8_10⟩) (by assumption) ?rest8_10
                                                                                                case hy8_10 =>
                                                                                                  intro u hSw
                                                                                                  rw [hS8] at hSw; obtain ⟨x1, x2, x3⟩ := hSw
                                                                                                  go_simp
                                                                                                  try with_reducible rfl
                                                                                                case rest8_10 =>
                                                                                                  refine till_take (i := 11) (v := ?v8_11) rfl (by kernel_rfl) (by kernel_rfl) (by kernel_rfl) (by kernel_rfl) (fun _ _ _ h => h) (Or.inl ⟨by rfl, ?hy8_11⟩) (by assumption) ?rest8_11
                                                                                                  case hy8_11 =>
                                                                                                    intro u hSw
                                                                                                    rw [hS8] at hSw; obtain ⟨x1, x2, x3⟩ := hSw
                                                                                                    go_simp
                                                                                                    try with_reducible rfl
                                                                                                  case rest8_11 =>
                                                                                                    refine till_take (i := 12) (v := ?v8_12) rfl (by kernel_rfl) (by kernel_rfl) (by kernel_rfl) (by kernel_rfl) (fun _ _ _ h => h) (Or.inl ⟨by rfl, ?hy8_12⟩) (by assumption) ?rest8_12
                                                                                                    case hy8_12 =>
                                                                                                      intro u hSw
                                                                                                      rw [hS8] at hSw; obtain ⟨x1, x2, x3⟩ := hSw
                                                                                                      go_simp
                                                                                                      try with_reducible rfl
                                                                                                    case rest8_12 =>
                                                                                                      refine till_take (i := 13) (v := ?v8_13) rfl (by kernel_rfl) (by kernel_rfl) (by kernel_rfl) (by kernel_rfl) (fun _ _ _ h => h) (Or.inl ⟨by rfl, ?hy8_13⟩) (by assumption) ?rest8_13
                                                                                                      case hy8_13 =>
                                                                                                        intro u hSw
                                                                                                        rw [hS8] at hSw; obtain ⟨x1, x2, x3⟩ := hSw
                                                                                                        go_simp
                                                                                                        try with_reducible rfl
                                                                                                      case rest8_13 =>
                                                                                                        refine till_take (i := 14) (v := ?v8_14) rfl (by kernel_rfl) (by kernel_rfl) (by kernel_rfl) (by kernel_rfl) (fun _ _ _ h => h) (Or.inl ⟨by rfl, ?hy8_14⟩) (by assumption) ?rest8_14
                                                                                                        case hy8_14 =>
                                                                                                          intro u hSw
                                                                                                          rw [hS8] at hSw; obtain ⟨x1, x2, x3⟩ := hSw
                                                                                                          go_simp
                                                                                                          try with_reducible rfl
                                                                                                        case rest8_14 =>
                                                                                                          refine till_take (i := 15) (v := ?v8_15) rfl (by kernel_rfl) (by kernel_rfl) (by kernel_rfl) (by kernel_rfl) (fun _ _ _ h => h) (Or.inl ⟨by rfl, ?hy8_15⟩) (by assumption) ?rest8_15
                                                                                                          case hy8_15 =>
                                                                                                            intro u hSw
                                                                                                            rw [hS8] at hSw; obtain ⟨x1, x2, x3⟩ := hSw
                                                                                                            go_simp
                                                                                                            try with_reducible rfl
                                                                                                          case rest8_15 =>
                                                                                                            refine till_take (i := 16) (v := ?v8_16) rfl (by kernel_rfl) (by kernel_rfl) (by kernel_rfl) (by kernel_rfl) (fun _ _ _ h => h) (Or.inl ⟨by rfl, ?hy8_16⟩) (by assumption) ?rest8_16
                                                                                                            case hy8_16 =>
                                                                                                              intro u hSw
                                                                                                              rw [hS8] at hSw; obtain ⟨x1, x2, x3⟩ := hSw
                                                                                                              go_simp
                                                                                                              try with_reducible rfl
                                                                                                            case rest8_16 =>
                                                                                                              simp only [List.getElem_toArray, List.getElem_cons_zero, List.getElem_cons_succ, Act.put, List.setIfInBounds_toArray, List.set_cons_zero, List.set_cons_succ]
                                                                                                              refine till_one (i := 17) rfl (by kernel_rfl) (fun K hK => ?_)
                                                                                                              go_simp
                                                                                                              refine hK.out _ _ (fun hz => by rw [hS8]; exact KA8.out _ ((Below.refl _ _).drew.alloc (Nat.le_refl _) _)) (fun hH => ?_)
                                                                                                              have hHeld := hH (by omega)
                                                                                                              clear hK K hH
                                                                                                              refine till_one (i := 18) rfl (by kernel_rfl) (fun K hK => ?_)
                                                                                                              refine step_append_lies _ rfl _ _ 23 (by rfl) w.heap.size 3 i0 (.int .i64 0) 1 8 Try.underlying23 HI.out hz0 hz1 hz2 rfl (by decide) _ _ _ (by rfl) (World.ownsRow.alloc HR2.out _) ⟨w10.heap.size, 0, none⟩ 1 1 [.int .i64 (2 * (k : Int) + 1)] (by rfl) (by rfl) (news_one (by simp)) (ones_one _) (by omega) (by have := HL2.out; unfold maxLen; omega) (by have := HL2.out; omega) (by have := HW8.out; simp; omega) (w10.heap.size + 1) (by simp) ?_
                                                                                                              intro g8 cap8 wx8 hown hgrow hat hlt
                                                                                                              have HR8 : Hid (Row wx8 w.heap.size (.slice (some ⟨g8, 0, none⟩) (l2.length + 1) cap8) (l2 ++ [2 * (k : Int) + 1])) := row_one hown rfl
                                                                                                              have SN8 := Lib.hid ((S11.out.below ((Below.refl _ _).drew.alloc (Nat.le_refl _) _)).app mfState_ne.1 (i := t + 2) (by omega) HR8.out hgrow (at_new hat (by simp)))
                                                                                                              have NG8 : Hid (∀ j, wx8.cell? ⟨w.heap.size + 1, j, none⟩ = w10.cell? ⟨w.heap.size + 1, j, none⟩) := fun j => by
                                                                                                                have hb : Below w10.heap.size w10 (w10.drew.alloc (.cells #[.int .i64 (2 * (k : Int) + 1)] 3)) := (Below.refl _ _).drew.alloc (Nat.le_refl _) _
                                                                                                                exact (hgrow.cell_far ⟨w.heap.size + 1, j, none⟩ (Nat.lt_of_lt_of_le S11.out.ty.lt hb.size) (fun e => own_off HR2.out S11.out.ty mfState_ne.1 e.symm)).trans (hb.cell (p := ⟨w.heap.size + 1, j, none⟩) S11.out.ty.lt)
                                                                                                              have HN8 : Hid (Below w.heap.size w wx8) := (HB11.out.drew.alloc HB11.out.size _).grown hgrow (by have := HW8.out; simp; omega) (fun g hg => (World.ownsRow.lt HR2.out g hg).1)
                                                                                                              have HZ8 : Hid (w10.heap.size ≤ wx8.heap.size) := Nat.le_trans (Nat.le_add_right _ 1) (by have := hgrow.size; simpa using this)
                                                                                                              have KB8 : Hid ((fun u => u.cell? ⟨w.heap.size + 1, 3, none⟩ = some (.slice (some ⟨w.heap.size, 0, none⟩) n n) ∧ u.cell? ⟨wr.heap.size, 1, none⟩ = some (.int .i64 (t : Int)) ∧ u.cell? ⟨w.heap.size, t, none⟩ = some (V3 (t + 2))) wx8) := ⟨SN8.out.c2, SN8.out.e1, own_at SN8.out.own (by have := n18; omega)⟩
                                                                                                              have qg8 : ∀ u : Nat, wx8.frozen? ⟨w.heap.size, u, none⟩ = false := own_fz SN8.out.own
                                                                                                              have qh8 : wx8.cell? ⟨w.heap.size, t, none⟩ = some (V3 (t + 2)) := KB8.out.2.2
                                                                                                              clear hown hgrow hat hlt
                                                                                                              refine hK.out _ _ (fun hz => by rw [hS8]; exact KB8.out) (fun hH => ?_)
                                                                                                              have hHeld := hH (by omega)
                                                                                                              clear hK K hH
                                                                                                              refine till_take (i := 19) (v := ?v8_19) rfl (by kernel_rfl) (by kernel_rfl) (by kernel_rfl) (by kernel_rfl) (fun _ _ _ h => h) (Or.inl ⟨by rfl, ?hy8_19⟩) (by assumption) ?rest8_19
                                                                                                              case hy8_19 =>
                                                                                                                intro u hSw
                                                                                                                rw [hS8] at hSw; obtain ⟨x1, x2, x3⟩ := hSw
                                                                                                                go_simp
                                                                                                                try with_reducible rfl
                                                                                                              case rest8_19 =>
                                                                                                                simp only [List.getElem_toArray, List.getElem_cons_zero, List.getElem_cons_succ, Act.put, List.setIfInBounds_toArray, List.set_cons_zero, List.set_cons_succ]
                                                                                                                refine till_one (i := 20) rfl (by kernel_rfl) (fun K hK => ?_)
                                                                                                                go_simp
                                                                                                                refine hK.out _ _ (fun hz => absurd rfl hz) (fun hH => ?_)
                                                                                                                clear hK K hH
                                                                                                                refine till_done (by kernel_rfl) ?_ _
                                                                                                                go_wp2
                                                                                                                have es : RS (wx8.setCell ⟨w.heap.size, t, none⟩ (.slice (some ⟨g8, 0, none⟩) (l2.length + 1) cap8)) w.heap.size (w.heap.size + 1) 1 w.heap.size n wr.heap.size 63 (upd V3 (t + 2) (.slice (some ⟨g8, 0, none⟩) (l2.length + 1) cap8)) (mapR n (upd V3 (t + 2) (.slice (some ⟨g8, 0, none⟩) (l2.length + 1) cap8))) (upd V3 (t + 2) (.slice (some ⟨g8, 0, none⟩) (l2.length + 1) cap8) 0) (upd V3 (t + 2) (.slice (some ⟨g8, 0, none⟩) (l2.length + 1) cap8) 1) (upd X3 (t + 2) (l2 ++ [2 * (k : Int) + 1])) f t c := by
                                                                                                                  have := SN8.out.stl mfState_ne.2 (.slice (some ⟨g8, 0, none⟩) (l2.length + 1) cap8) t
                                                                                                                  rw [mapR_set _ _ d1] at this
                                                                                                                  rw [upd_far _ _ (show 0 ≠ t + 2 by omega), upd_far _ _ (show 1 ≠ t + 2 by omega)]
                                                                                                                  exact this
                                                                                                                have SE := Lib.hid (es.head rfl rfl rfl HX.out)
                                                                                                                have HB13 : Hid (Below w.heap.size w (wx8.setCell ⟨w.heap.size, t, none⟩ (.slice (some ⟨g8, 0, none⟩) (l2.length + 1) cap8))) := HN8.out.setCell (Nat.le_refl _) _
                                                                                                                have z13 : Hid (w.heap.size + 1 < (wx8.setCell ⟨w.heap.size, t, none⟩ (.slice (some ⟨g8, 0, none⟩) (l2.length + 1) cap8)).heap.size) := by have := HZ8.out; show _ < _; simp; omega
                                                                                                                have HN13 : Hid ((wx8.setCell ⟨w.heap.size, t, none⟩ (.slice (some ⟨g8, 0, none⟩) (l2.length + 1) cap8)).cell? ⟨w.heap.size + 1, 0, none⟩ = some (.int .i64 n)) := by show _ = _; rw [World.cell?_setCell_far _ _ _ _ (show w.heap.size ≠ w.heap.size + 1 by omega), NG8.out]; exact HN11.out
                                                                                                                clear es
                                                                                                                go_roundw
                                                                                                                case rel => exact ⟨k + 1, by omega, by go_num, ⟨_, SE.out⟩, HN13.out, HB13.out, z13.out⟩
                                                                                                                case measure => simp [intOf]; omega
    · obtain rfl : k = m := by omega
      go_wp2
      go_ret
      exact ⟨w.heap.size + 1, w.heap.size, vs, rfl, HN0.out, by omega, by rw [HFr.out, HTg.out, HCp.out]; exact HQ.out, HB.out⟩
end Go.Proofs.Ytdgkgnlilcbggaa
