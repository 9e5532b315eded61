/-
  Lists of lists of integers: how an argument reads; measured and copied.
-/
import Derived.Test.YtfpjodoimfbadaaRB
import Derived.Test.YtfpjodoimfbadaaM4
namespace Go.Proofs.Ytfpjodoimfbadaa
open Go.RowKit
set_option linter.unusedVariables false

/-- The slice v reads as the lists tss. -/
def SeenL (w : World) (v : Value) (tss : List (List Int)) : Prop :=
  ∃ A c, v = .slice A tss.length c ∧ tss.length ≤ maxLen ∧ (0 < tss.length → ∃ b off, A = some ⟨b, off, none⟩ ∧ b < w.heap.size ∧ ∀ k : Nat, k < tss.length → ∃ u, w.cell? ⟨b, off + k, none⟩ = some u ∧ Seen w u (tss.getD k []))
theorem SeenL.below {w w' : World} {v : Value} {tss : List (List Int)} (h : SeenL w v tss) (hb : Below w.heap.size w w') : SeenL w' v tss := by
  obtain ⟨A, c, rfl, hm, h⟩ := h
  refine ⟨A, c, rfl, hm, fun h0 => ?_⟩
  obtain ⟨b, off, rfl, hlt, hc⟩ := h h0
  refine ⟨b, off, rfl, Nat.lt_of_lt_of_le hlt hb.size, fun k hk => ?_⟩
  obtain ⟨u, hu, hs⟩ := hc k hk
  exact ⟨u, by rw [hb.cell (p := ⟨b, off + k, none⟩) hlt]; exact hu, hs.below hb⟩
theorem SeenL.shape {w : World} {v : Value} {tss : List (List Int)} (h : SeenL w v tss) : ∃ A c, v = .slice A tss.length c ∧ tss.length ≤ maxLen := by
  obtain ⟨A, c, rfl, hm, _⟩ := h
  exact ⟨A, c, rfl, hm⟩
theorem Rows.seen {w : World} {B U : Nat} {v : Value} {tss : List (List Int)} (h : Rows w B U v tss) : SeenL w v tss := by
  obtain ⟨vs, h⟩ := h
  rcases h.own.2 with ⟨rfl, h0⟩ | ⟨g, cap, cur, rfl, _, hg, hn, hm, _⟩
  · exact ⟨none, 0, by rw [h0], by omega, fun h1 => by omega⟩
  · refine ⟨_, _, rfl, by omega, fun h0 => ⟨g, 0, rfl, ?_, fun k hk => ⟨_, by rw [Nat.zero_add]; exact h.cell hk, Row.seen (h.row k hk)⟩⟩⟩
    obtain ⟨g', c', e, _, hl⟩ := h.form h0
    simp at e
    rw [e.1]; exact hl

def ShortL (tss : List (List Int)) : Prop := tss.length ≤ 1048576 ∧ ∀ i, i < tss.length → (tss.getD i []).length ≤ 1048576
theorem shortL_of {tss : List (List Int)} {left : Int} (h : (tss.length : Int) + (totN tss tss.length : Int) ≤ left) (hl : left ≤ 1048576) : ShortL tss := by
  refine ⟨by omega, fun i hi => ?_⟩
  have := tot_mono tss (show i + 1 ≤ tss.length by omega)
  rw [show totN tss (i + 1) = totN tss i + (tss.getD i []).length from rfl] at this
  omega

set_option maxHeartbeats 4000000 in
theorem c_szIntSS (tss : List (List Int)) (v : Value) (left : Int) (w : World) (h1 : 0 ≤ left) (h2 : left ≤ 1048576) (h : SeenL w v tss) :
    Calls Try.prog 4 #[v, .int .i64 left] w fun e w' => (∃ r, e = .returned (.int .i64 r) ∧ (r = -1 ∨ ((tss.length : Int) + (totN tss tss.length : Int) ≤ left ∧ r = left - ((tss.length : Int) + (totN tss tss.length : Int))))) ∧ w = w' := by
  obtain ⟨A, c, rfl, hm, hA⟩ := h
  have hn : (tss.length : Int) ≤ 9223372036854775807 := by unfold maxLen at hm; omega
  have E0 : Hid (∀ k : Nat, k < tss.length → ∃ b off A' c', A = some ⟨b, off, none⟩ ∧ w.cell? ⟨b, off + k, none⟩ = some (.slice A' ((tss.getD k []).length) c') ∧ (tss.getD k []).length ≤ 9223372036854775807) := fun k hk => by
    obtain ⟨b, off, rfl, hb, hc⟩ := hA (by omega)
    obtain ⟨u, hu, hs⟩ := hc k hk
    obtain ⟨A', c', rfl, hm', _⟩ := hs
    exact ⟨b, off, A', c', rfl, hu, by unfold maxLen at hm'; omega⟩
  have HT : Hid (∀ i, totN tss i + (tss.getD i []).length = totN tss (i + 1)) := fun i => rfl
  have HZ : Hid (totN tss 0 = 0) := rfl
  clear hA hm
  generalize totN tss = T at *
  by_cases h0 : left < (tss.length : Int)
  · go_enter Try.func4, Try.ntmps4
    go_wp2
    go_ret
    exact ⟨⟨-1, rfl, .inl rfl⟩, rfl⟩
  · have h3 : (tss.length : Int) ≤ left := by omega
    have h4 : ¬ (left - (tss.length : Int)) < 0 := by omega
    go_enter Try.func4, Try.ntmps4
    go_wp2_with fail
    go_loop [1, 5] (fun q i => ∃ k : Nat, k ≤ tss.length ∧ i = .int .i64 k ∧ q = .int .i64 (left - (tss.length : Int) - (T k : Nat)) ∧ (T k : Int) ≤ left - (tss.length : Int)) (fun _ i => tss.length - (intOf i).toNat)
    case atStart => exact ⟨0, Nat.zero_le _, rfl, by rw [HZ.out]; simp, by rw [HZ.out]; simp; omega⟩
    case round =>
      obtain ⟨k, hk, rfl, rfl, hT⟩ := hrel
      by_cases hlt : k < tss.length
      · obtain ⟨b, off, A', c', rfl, q0, hle⟩ := E0.out k hlt
        have ht := HT.out k
        generalize (tss.getD k []).length = m at *
        have b1 : (0 : Int) ≤ (k : Int) := by omega
        have b2 : (k : Int) < (tss.length : Int) := by omega
        go_wp2_with fail
        refine (c_szIntS A' m c' _ _ (by omega) (by omega) hle).mono ?_
        rintro e w1 ⟨rfl, rfl⟩
        by_cases hm : (m : Int) ≤ left - (tss.length : Int) - (T k : Nat)
        · rw [if_pos hm]
          have h5 : ¬ (left - (tss.length : Int) - (T k : Nat) - (m : Int)) < 0 := by omega
          go_wp2
          go_round
          case rel => exact ⟨k + 1, by omega, by go_num, by rw [show left - (tss.length : Int) - (T k : Nat) - (m : Int) = left - (tss.length : Int) - (T (k + 1) : Nat) by omega], by omega⟩
          case measure => simp [intOf]; omega
        · rw [if_neg hm]
          go_wp2
          go_ret
          exact ⟨⟨-1, rfl, .inl rfl⟩, rfl⟩
      · obtain rfl : k = tss.length := by omega
        go_wp2
        go_ret
        exact ⟨⟨_, rfl, .inr ⟨by omega, by omega⟩⟩, rfl⟩

/-- The first k lists are there, the others empty. -/
def stg (tss : List (List Int)) (k : Nat) : List (List Int) := tss.take k ++ List.replicate (tss.length - k) []
theorem stg_len (tss : List (List Int)) (k : Nat) (h : k ≤ tss.length) : (stg tss k).length = tss.length := by simp [stg]; omega
theorem stg_zero (tss : List (List Int)) : stg tss 0 = List.replicate tss.length [] := by simp [stg]
theorem stg_all (tss : List (List Int)) : stg tss tss.length = tss := by simp [stg]
theorem stg_set (tss : List (List Int)) (j : Nat) (h : j < tss.length) : (stg tss j).set j (tss.getD j []) = stg tss (j + 1) := by
  apply List.ext_getElem
  · simp only [List.length_set]; rw [stg_len _ _ (by omega), stg_len _ _ (by omega)]
  · intro i h1 h2
    simp only [stg, List.getElem_set, List.getElem_append, List.length_take, List.getElem_take, List.getElem_replicate]
    simp only [List.length_set] at h1
    rw [stg_len _ _ (by omega)] at h1
    by_cases e : j = i
    · subst e
      simp [h, show j < min (j + 1) tss.length by omega]
    · simp only [e, if_false]
      by_cases l : i < j
      · simp [show i < min j tss.length by omega, show i < min (j + 1) tss.length by omega]
      · simp [show ¬ i < min j tss.length by omega, show ¬ i < min (j + 1) tss.length by omega]

def GivesLL (w : World) (tss : List (List Int)) (e : Ending) (w' : World) : Prop := ∃ v, e = .returned v ∧ Rows w' w.heap.size w'.heap.size v tss ∧ Below w.heap.size w w'

set_option maxHeartbeats 4000000 in
theorem c_toIntSS (tss : List (List Int)) (v : Value) (w : World) (hl : ShortL tss) (h : SeenL w v tss) :
    Calls Try.prog 7 #[v] w (GivesLL w tss) := by
  obtain ⟨i0, hi0, hz0, hz1, hz2⟩ := info_parts list_info
  have HS := Lib.hid h
  obtain ⟨A, c, rfl, hm, hA⟩ := h
  obtain ⟨hl1, hl2⟩ := hl
  have HL2 := Lib.hid hl2
  have hmk : (Instr.makeSlice 24 (.int .i64 (tss.length : Int)) (.int .i64 (tss.length : Int))).run Try.prog w = .ok (.slice (some ⟨w.heap.size, 0, none⟩) tss.length tss.length) (w.alloc (.cells (madeCells #[.slice none 0 0] tss.length) 25)) := by
    have := run_make (P := Try.prog) w 24 25 i0 (.slice none 0 0) Try.underlying24 hi0 hz0 .i64 .i64 (tss.length : Int) (tss.length : Int) (by omega) (by omega) (by rw [hz2]; omega) (by omega)
    simpa [hz1, Value.cells] using this
  have E0 : Hid (∀ (k : Nat) (u : World), Below w.heap.size w u → k < tss.length → ∃ b off A' c', A = some ⟨b, off, none⟩ ∧ u.cell? ⟨b, off + k, none⟩ = some (.slice A' ((tss.getD k []).length) c') ∧ Seen u (.slice A' (tss.getD k []).length c') (tss.getD k [])) := fun k u hu hk => by
    obtain ⟨b, off, rfl, hb, hc⟩ := hA (by omega)
    obtain ⟨x, hx, hs⟩ := hc k hk
    obtain ⟨A', c', rfl⟩ := hs.shape
    exact ⟨b, off, A', c', rfl, by rw [hu.cell (p := ⟨b, off + k, none⟩) hb]; exact hx, hs.below hu⟩
  have H0 : Hid (Rows (w.alloc (.cells (madeCells #[.slice none 0 0] tss.length) 25)) w.heap.size (w.alloc (.cells (madeCells #[.slice none 0 0] tss.length) 25)).heap.size (.slice (some ⟨w.heap.size, 0, none⟩) tss.length tss.length) (stg tss 0)) := by rw [stg_zero]; exact rows_nils w _ hm
  have HL : Hid (∀ k, k ≤ tss.length → (stg tss k).length = tss.length) := stg_len tss
  have HSt : Hid (∀ j, j < tss.length → (stg tss j).set j (tss.getD j []) = stg tss (j + 1)) := stg_set tss
  have HA : Hid (stg tss tss.length = tss) := stg_all tss
  clear hA hi0 hz0 hz1 hz2 hm hl2
  generalize stg tss = M at *
  go_enter Try.func7, Try.ntmps7
  go_wp2
  clear hmk
  go_loopw [4] (fun i wr => ∃ k : Nat, k ≤ tss.length ∧ i = .int .i64 k ∧ Rows wr w.heap.size wr.heap.size (.slice (some ⟨w.heap.size, 0, none⟩) tss.length tss.length) (M k) ∧ Below w.heap.size w wr ∧ w.heap.size < wr.heap.size) (fun i _ => tss.length - (intOf i).toNat)
  case atStart => exact ⟨0, Nat.zero_le _, rfl, H0.out, (Below.refl _ _).alloc (Nat.le_refl _) _, by simp⟩
  case round =>
    obtain ⟨k, hk, rfl, hr, hb, hs⟩ := hrel
    have HR := Lib.hid hr
    have HB := Lib.hid hb
    clear hr hb
    by_cases hlt : k < tss.length
    · obtain ⟨b, off, A', c', rfl, q0, hsp⟩ := E0.out k wr HB.out hlt
      have HSP := Lib.hid hsp
      have hle := HL2.out k hlt
      have hset : Hid ((M k).set k (tss.getD k []) = M (k + 1)) := HSt.out k hlt
      have hlk : Hid ((M k).length = tss.length) := HL.out k hk
      clear hsp
      generalize tss.getD k [] = ys at *
      have b1 : (0 : Int) ≤ (k : Int) := by omega
      have b2 : (k : Int) < (tss.length : Int) := by omega
      go_wp2_with fail
      refine (c_toIntS ys _ _ (by omega) HSP.out).mono ?_
      rintro e w2 ⟨p, rfl, hp, hb2⟩
      obtain ⟨PA, pc, hps⟩ := hp.shape
      subst hps
      have HP := Lib.hid hp
      have HR2 := Lib.hid (HR.out.below hb2 (Nat.le_refl _))
      have HB2 : Hid (Below w.heap.size w w2) := HB.out.trans (hb2.mono HB.out.size)
      have hs2 : w.heap.size < w2.heap.size := Nat.lt_of_lt_of_le hs hb2.size
      have hpo : Hid (∀ j, (Value.slice PA ys.length pc).ownBlock = some j → wr.heap.size ≤ j) := fun j hj => (World.ownsRow.lt HP.out j hj).1
      clear hp hb2
      obtain ⟨vs, kv⟩ := HR2.out
      have q1 : w2.cell? ⟨w.heap.size, k, none⟩ = some (vs.getD k (.slice none 0 0)) := by
        have hv := kv
        rw [← hlk.out] at hv
        exact hv.cell (by rw [hlk.out]; exact hlt)
      have q2 : w2.frozen? ⟨w.heap.size, k, none⟩ = false := by
        have hv := kv.own
        rw [hlk.out] at hv
        exact World.ownsRow.frozenAt hv k
      have N1 := Lib.hid (RowsV.put kv hlk.out.symm (by rw [hlk.out]; exact hlt) (HP.out.mono HB.out.size) hpo.out)
      rw [hset.out] at N1
      have NB : Hid (Below w.heap.size w (w2.setCell ⟨w.heap.size, k, none⟩ (.slice PA ys.length pc))) := HB2.out.setCell (Nat.le_refl _) _
      clear kv
      generalize vs.getD k (.slice none 0 0) = z at *
      go_wp2
      go_roundw
      case rel => exact ⟨k + 1, by omega, by go_num, ⟨_, N1.out⟩, NB.out, by simpa using hs2⟩
      case measure => simp [intOf]; omega
    · obtain rfl : k = tss.length := by omega
      go_wp2
      go_ret
      exact ⟨_, rfl, by have := HR.out; rw [HA.out] at this; exact this, HB.out⟩
end Go.Proofs.Ytfpjodoimfbadaa
