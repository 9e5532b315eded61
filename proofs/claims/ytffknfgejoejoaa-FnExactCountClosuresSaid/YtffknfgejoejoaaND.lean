/-
  Contracts: arcs reduced, in the program.
-/
import Derived.Test.YtffknfgejoejoaaNC
namespace Go.Proofs.Ytffknfgejoejoaa
open Go.RowKit
set_option linter.unusedVariables false

/-- The lists of reduced arcs. -/
def rdL (xss : List (List Int)) : List (List Int) := (List.range xss.length).map fun i => unL xss (clL xss (xss.getD i []))
theorem rdL_len (xss : List (List Int)) : (rdL xss).length = xss.length := by simp [rdL]
theorem rdL_at {xss : List (List Int)} {i : Nat} (hi : i < xss.length) : (rdL xss).getD i [] = unL xss (clL xss (xss.getD i [])) := by simp [rdL, List.getD_eq_getElem?_getD, hi]
def reA (xss : List (List Int)) : List (List Int) := if arcB xss = true then rdL xss else []
theorem sel_in (p : Int → Bool) (N : Nat) : InN N (sel p N) := fun x hx => by
  have := mem_sel.1 hx
  simp only [inr, Bool.and_eq_true, decide_eq_true_eq] at this
  exact this.1

set_option maxHeartbeats 4000000 in
set_option maxRecDepth 100000 in
theorem c_ReducedArcs (xss : List (List Int)) (v : Value) (w : World) (hs : ShortL xss) (h : SeenL w v xss) :
    Calls Try.prog 47 #[v] w (GivesRows2 w (reA xss) (arcB xss)) := by
  have HS := Lib.hid h
  have C0 := Lib.hid (c_AreArcs xss v w hs h)
  cases hv : arcB xss
  · have HL : Hid (reA xss = []) := by show _ = _; unfold reA; rw [hv]; rfl
    rw [hv] at C0
    obtain ⟨A, c, rfl, _⟩ := h.shape
    clear h hs hv
    go_enter Try.func47, Try.ntmps47
    go_wp2_with fail
    refine C0.out.mono ?_
    rintro e w1 ⟨rfl, rfl⟩
    go_wp2
    go_ret2
    exact ⟨_, rfl, by rw [HL.out]; exact Rows.nil _ _ _, Below.refl _ _⟩
  · have HL : Hid (reA xss = rdL xss) := by show _ = _; unfold reA; rw [hv]; rfl
    rw [hv] at C0
    have hN := arc_len hv
    obtain ⟨i0, hi0, hz0, hz1, hz2⟩ := info_parts list_info
    have C1 : Hid (∀ (k : Nat) (u : World) (q : Value), k < xss.length → Below w.heap.size w u → Seen u q (xss.getD k []) → Calls Try.prog 67 #[v, q] u (GivesRow u (clL xss (xss.getD k [])))) := fun k u q hk hu hq =>
      c_closeList xss _ v q u hv (arc_in hv hk) (by have := arc_slen hv hk; omega) (h.below hu) hq
    have C2 : Hid (∀ (k : Nat) (u : World) (q : Value), k < xss.length → Below w.heap.size w u → Seen u q (clL xss (xss.getD k [])) → Calls Try.prog 76 #[v, q] u (GivesRow u (unL xss (clL xss (xss.getD k []))))) := fun k u q hk hu hq =>
      c_unneeded xss _ v q u hv (sel_in _ _) (by have := clL_len xss (xss.getD k []); omega) (h.below hu) hq
    obtain ⟨A, c, rfl, hm⟩ := h.shape
    have hmk : ∀ u : World, (Instr.makeSlice 22 (.int .i64 (xss.length : Int)) (.int .i64 (xss.length : Int))).run Try.prog u = .ok (.slice (some ⟨u.heap.size, 0, none⟩) xss.length xss.length) (u.alloc (.cells (madeCells #[.slice none 0 0] xss.length) 27)) := fun u => by
      have := run_make (P := Try.prog) u 22 27 i0 (.slice none 0 0) Try.underlying22 hi0 hz0 .i64 .i64 (xss.length : Int) (xss.length : Int) (by omega) (by omega) (by rw [hz2]; omega) (by omega)
      simpa [hz1, Value.cells] using this
    have H0 : Hid (Rows (w.alloc (.cells (madeCells #[.slice none 0 0] xss.length) 27)) w.heap.size (w.alloc (.cells (madeCells #[.slice none 0 0] xss.length) 27)).heap.size (.slice (some ⟨w.heap.size, 0, none⟩) xss.length xss.length) (stg (rdL xss) 0)) := by
      show Rows _ _ _ _ _
      rw [stg_zero, rdL_len]; exact rows_nils w _ hm
    have HLn : Hid (∀ k, k ≤ xss.length → (stg (rdL xss) k).length = xss.length) := fun k hk => by rw [stg_len _ _ (by rw [rdL_len]; exact hk), rdL_len]
    have HSt : Hid (∀ j, j < xss.length → (stg (rdL xss) j).set j (unL xss (clL xss (xss.getD j []))) = stg (rdL xss) (j + 1)) := fun j hj => by
      rw [← rdL_at hj]; exact stg_set _ _ (by rw [rdL_len]; exact hj)
    have HA : Hid (stg (rdL xss) xss.length = rdL xss) := by
      show _ = _
      have := stg_all (rdL xss)
      rwa [rdL_len] at this
    clear h hs hv hi0 hz0 hz1 hz2 hm
    generalize stg (rdL xss) = M at *
    go_enter Try.func47, Try.ntmps47
    go_wp2_with fail
    refine C0.out.mono ?_
    rintro e w' ⟨rfl, rfl⟩
    have hmw := hmk w
    clear hmk
    go_wp2_with fail
    clear hmw
    go_loopw [15] (fun i wr => ∃ k : Nat, k ≤ xss.length ∧ i = .int .i64 k ∧ Rows wr w.heap.size wr.heap.size (.slice (some ⟨w.heap.size, 0, none⟩) xss.length xss.length) (M k) ∧ Below w.heap.size w wr ∧ w.heap.size < wr.heap.size) (fun i _ => xss.length - (RowKit.intOf i).toNat)
    case atStart => exact ⟨0, Nat.zero_le _, rfl, H0.out, (Below.refl _ _).alloc (Nat.le_refl _) _, by simp⟩
    case round =>
      obtain ⟨k, hk, rfl, hr, hb, hsz⟩ := hrel
      have HR := Lib.hid hr
      have HB := Lib.hid hb
      clear hr hb
      by_cases hlt : k < xss.length
      · have HSr := Lib.hid (HS.out.below HB.out)
        obtain ⟨b, off, A', c', rfl, _, q0, hse⟩ := HSr.out.row hlt
        have HC1 := Lib.hid (C1.out k wr _ hlt HB.out hse)
        have hset := Lib.hid (HSt.out k hlt)
        have hlk := Lib.hid (HLn.out k hk)
        have HC2 := Lib.hid (fun u q => C2.out k u q hlt)
        have b1 : (0 : Int) ≤ (k : Int) := by omega
        have b2 : (k : Int) < (xss.length : Int) := by omega
        clear hse
        generalize clL xss (xss.getD k []) = cs at *
        generalize unL xss cs = ys at *
        generalize (xss.getD k []).length = mm at *
        go_wp2_with fail
        refine HC1.out.mono ?_
        rintro e w2 ⟨q, rfl, hq, hb2⟩
        have HB2 : Hid (Below w.heap.size w w2) := HB.out.trans (hb2.mono HB.out.size)
        have HQ := Lib.hid hq.seen
        have HR2 := Lib.hid (HR.out.below hb2 (Nat.le_refl _))
        have s2 := hb2.size
        clear hq hb2
        go_wp2_with fail
        refine (HC2.out w2 q HB2.out HQ.out).mono ?_
        rintro e w3 ⟨p, rfl, hp, hb3⟩
        obtain ⟨PA, pc, hps⟩ := hp.shape
        subst hps
        have HP := Lib.hid hp
        have HB3 : Hid (Below w.heap.size w w3) := HB2.out.trans (hb3.mono HB2.out.size)
        have HR3 := Lib.hid (HR2.out.below hb3 s2)
        have hs3 : w.heap.size < w3.heap.size := Nat.lt_of_lt_of_le (Nat.lt_of_lt_of_le hsz s2) hb3.size
        have hpo : Hid (∀ j, (Value.slice PA ys.length pc).ownBlock = some j → wr.heap.size ≤ j) := fun j hj => Nat.le_trans s2 (World.ownsRow.lt HP.out j hj).1
        clear hp hb3
        obtain ⟨vs, kv⟩ := HR3.out
        have q1 : w3.cell? ⟨w.heap.size, k, none⟩ = some (vs.getD k (.slice none 0 0)) := by
          have hv := kv
          rw [← hlk.out] at hv
          exact hv.cell (by rw [hlk.out]; exact hlt)
        have q2 : w3.frozen? ⟨w.heap.size, k, none⟩ = false := by
          have hv := kv.own
          rw [hlk.out] at hv
          exact World.ownsRow.frozenAt hv k
        have N1 := Lib.hid (RowsV.put kv hlk.out.symm (by rw [hlk.out]; exact hlt) (HP.out.mono HB2.out.size) hpo.out)
        rw [hset.out] at N1
        have NB : Hid (Below w.heap.size w (w3.setCell ⟨w.heap.size, k, none⟩ (.slice PA ys.length pc))) := HB3.out.setCell (Nat.le_refl _) _
        clear kv
        generalize vs.getD k (.slice none 0 0) = z at *
        go_wp2
        go_roundw
        case rel => exact ⟨k + 1, by omega, by go_num, ⟨_, N1.out⟩, NB.out, by simpa using hs3⟩
        case measure => simp [RowKit.intOf]; omega
      · obtain rfl : k = xss.length := by omega
        go_wp2
        go_ret2
        exact ⟨_, rfl, by have := HR.out; rw [HA.out] at this; rw [HL.out]; exact this, HB.out⟩
end Go.Proofs.Ytffknfgejoejoaa
