/-
  Contracts of the model's reader of numbers and of its split at a byte.
-/
import Derived.Test.YtgibkjjjnfjbkaaDoorLS1
import Derived.Test.YtgibkjjjnfjbkaaDoorC6
import Derived.Test.YtgibkjjjnfjbkaaDoorC3
namespace Go.Proofs.YtgibkjjjnfjbkaaDoor
open Go.RowKit
set_option linter.unusedVariables false

theorem take_more (s : ByteArray) (k : Nat) (h : k < s.size) : s.data.toList.take (k + 1) = s.data.toList.take k ++ [s[k]'h] := by
  rw [List.take_succ_eq_append_getElem (by simpa using h)]; rfl
theorem rd_no_all {l : List UInt8} {c : UInt8} (hc : c ∈ l) (h : dig c = false) : rdL l = -1 := by
  unfold rdL
  rw [if_neg]
  unfold rdB
  simp only [Bool.and_eq_true, List.all_eq_true, not_and]
  intro _ h2
  have := h2 c hc
  rw [h] at this
  cases this
theorem rd_no {l : List UInt8} (h : rdB l = false) : rdL l = -1 := by unfold rdL; rw [h]; rfl
theorem rd_yes {l : List UInt8} (h : rdB l = true) : rdL l = nf 0 l := by unfold rdL; rw [h]; rfl
set_option maxHeartbeats 1000000 in
theorem c_l1Read (t : ByteArray) (w : World) : Calls Tryd.prog 10 #[.string t] w fun e w' => e = .returned (.int .i64 (rdL t.data.toList)) ∧ w = w' := by
  have hsz : t.data.toList.length = t.size := by simp
  cases hd : decide ((1 : Int) ≤ (t.size : Int) ∧ (t.size : Int) ≤ 6)
  · have hd' := of_decide_eq_false hd
    rw [rd_no (by unfold rdB; rw [hsz]; by_cases h1 : 1 ≤ t.size <;> by_cases h2 : t.size ≤ 6 <;> simp [h1, h2] <;> omega)]
    clear hsz hd'
    go_enter Tryd.func10, Tryd.ntmps10
    go_wp2_with fail
    refine (c_l1In _ _ _ _).mono ?_
    rintro e w1 ⟨rfl, rfl⟩
    rw [hd]
    go_wp2
    go_ret
    exact ⟨rfl, rfl⟩
  · have hd' := of_decide_eq_true hd
    have h1 : 0 < t.size := by omega
    have h6 : t.size ≤ 6 := by omega
    have hg0 : t.data.toList.getD 0 0 = t[0]'h1 := by
      rw [List.getD_eq_getElem?_getD, List.getElem?_eq_getElem (by omega)]; rfl
    by_cases hz : t[0]'h1 = 48 ∧ 1 < t.size
    · rw [rd_no (by unfold rdB; rw [hsz, hg0]; simp [hz.1, hz.2])]
      obtain ⟨hz1, hz2⟩ := hz
      have e0 : (((t[0]'h1).toNat : Int) == 48) = true := by rw [hz1]; rfl
      have e1 : (1 : Int) < (t.size : Int) := by omega
      clear hsz hd' hg0 hz1 hz2
      go_enter Tryd.func10, Tryd.ntmps10
      go_wp2_with fail
      refine (c_l1In _ _ _ _).mono ?_
      rintro e w1 ⟨rfl, rfl⟩
      rw [hd]
      go_wp2
      go_ret
      exact ⟨rfl, rfl⟩
    · have hzz : (((t[0]'h1).toNat : Int) == 48) = false ∨ (((t[0]'h1).toNat : Int) == 48) = true ∧ decide ((1 : Int) < (t.size : Int)) = false := by
        by_cases e : t[0]'h1 = 48
        · right; refine ⟨by rw [e]; rfl, ?_⟩
          have hn : ¬ 1 < t.size := fun h => hz ⟨e, h⟩
          exact decide_eq_false (by omega)
        · left
          rw [beq_eq_false_iff_ne]
          intro h
          exact e (UInt8.toNat_inj.1 (by have : (48 : UInt8).toNat = 48 := rfl; omega))
      have HB : Hid (∀ h : ∀ c ∈ t.data.toList, dig c = true, rdL t.data.toList = nf 0 t.data.toList) := fun h => rd_yes (by
        unfold rdB
        rw [hsz, hg0, List.all_eq_true.2 h]
        by_cases e : t[0]'h1 = 48
        · have : ¬ 1 < t.size := fun h => hz ⟨e, h⟩
          simp [this]; omega
        · simp [e]; omega)
      have HT : Hid (t.data.toList.take t.size = t.data.toList) := List.take_of_length_le (by omega)
      have HL : Hid (t.data.toList.length = t.size) := hsz
      clear hg0 hsz hd' hz
      rcases hzz with hz | ⟨hz, hz'⟩
      all_goals
        go_enter Tryd.func10, Tryd.ntmps10
        go_wp2_with fail
        refine (c_l1In _ _ _ _).mono ?_
        rintro e w1 ⟨rfl, rfl⟩
        rw [hd]
        go_wp2
        clear hd hz
        go_loop [3, 4] (fun n i => ∃ k : Nat, k ≤ t.size ∧ i = .int .i64 k ∧ n = .int .i64 (nf 0 (t.data.toList.take k)) ∧ ∀ c ∈ t.data.toList.take k, dig c = true) (fun _ i => t.size - (intOf i).toNat)
        case atStart => exact ⟨0, Nat.zero_le _, rfl, rfl, fun c hc => by simp at hc⟩
        case round =>
          obtain ⟨k, hk, rfl, rfl, hall⟩ := hrel
          have HA := Lib.hid hall
          clear hall
          obtain ⟨n1, n2⟩ := nf_box HA.out (by rw [List.length_take]; omega)
          by_cases hlt : k < t.size
          · have b1 : (0 : Int) ≤ (k : Int) := by omega
            have b2 : (k : Int) < (t.size : Int) := by omega
            have hmem : t[k]'hlt ∈ t.data.toList := List.getElem_mem (l := t.data.toList) (by simpa using hlt)
            cases hdg : dig (t[k]'hlt)
            · have hR := rd_no_all hmem hdg
              have HR := Lib.hid hR
              have hx := of_decide_eq_false hdg
              have hx' : ((t[k]'hlt).toNat : Int) < 48 ∨ 57 < ((t[k]'hlt).toNat : Int) := by omega
              clear hx hdg hmem hR
              rcases hx' with hx | hx
              all_goals
                go_wp2
                go_ret
                exact ⟨ret_int HR.out.symm, rfl⟩
            · obtain ⟨x1, x2⟩ := of_decide_eq_true hdg
              have y1 : (48 : Int) ≤ ((t[k]'hlt).toNat : Int) := by omega
              have y2 : ((t[k]'hlt).toNat : Int) ≤ 57 := by omega
              have HS : Hid (nf 0 (t.data.toList.take (k + 1)) = 10 * nf 0 (t.data.toList.take k) + (((t[k]'hlt).toNat : Int) - 48)) := by unfold Hid; rw [take_more t k hlt, nf_snoc]
              have HA2 : Hid (∀ c ∈ t.data.toList.take (k + 1), dig c = true) := by
                intro c hc
                rw [take_more t k hlt, List.mem_append] at hc
                rcases hc with hc | hc
                · exact HA.out c hc
                · simp at hc; rw [hc]; exact hdg
              clear hdg x1 x2 hmem
              generalize nf 0 (t.data.toList.take k) = n at *
              go_wp2
              go_round
              case rel => exact ⟨k + 1, by omega, by go_num, by rw [HS.out], HA2.out⟩
              case measure => simp [intOf]; omega
          · obtain rfl : k = t.size := by omega
            have HE := Lib.hid (HB.out (by have := HA.out; rw [HT.out] at this; exact this))
            go_wp2
            go_ret
            exact ⟨ret_int (by rw [HE.out, HT.out]), rfl⟩

/-! ### The split -/
def strs (ps : List (List UInt8)) : List Value := ps.map fun p => Value.string ⟨p.toArray⟩
/-- The slice v is a row of these strings, in memory from block B on. -/
def RowS (w : World) (B : Nat) (v : Value) (ps : List (List UInt8)) : Prop := w.ownsRow B 9 1 v ps.length (strs ps)
theorem str_info : (Tryd.prog.info? 9).map (fun i => (i.zero, i.size, i.bytes)) = some (some (.string ByteArray.empty), 1, 16) := by kernel_rfl
theorem rowS_more {w3 : World} {B : Nat} {v' : Value} {ps : List (List UInt8)} {p : List UInt8} (h : w3.ownsRow B 9 1 v' (ps.length + 1) (strs ps ++ [.string ⟨p.toArray⟩])) : RowS w3 B v' (ps ++ [p]) := by
  unfold RowS
  rw [List.length_append, show strs (ps ++ [p]) = strs ps ++ [.string ⟨p.toArray⟩] by simp [strs]]
  exact h
def GivesS (w : World) (ps : List (List UInt8)) (e : Ending) (w' : World) : Prop := ∃ v, e = .returned v ∧ RowS w' w.heap.size v ps ∧ Below w.heap.size w w'
theorem cut_eq (s : ByteArray) (f k : Nat) : s.extract f k = ⟨((s.data.toList.take k).drop f).toArray⟩ := by
  apply ByteArray.ext
  apply Array.ext'
  simp [ByteArray.data_extract, Array.toList_extract, List.drop_take]

set_option maxHeartbeats 1000000 in
theorem c_l1Split (b : UInt8) (s : ByteArray) (w : World) (hs : s.size ≤ 1048576) : Calls Tryd.prog 9 #[.string s, .int .u8 (b.toNat : Int)] w (GivesS w (spb b [] s.data.toList)) := by
  obtain ⟨i0, hi0, hz0, hz1, hz2⟩ := info_parts str_info
  have HI := Lib.hid hi0
  clear hi0
  have HL : Hid (s.data.toList.length = s.size) := by simp [Hid]
  go_enter Tryd.func9, Tryd.ntmps9
  go_wp2
  go_loopw [5, 6, 7] (fun v fr i wr => ∃ (k f : Nat) (ps : List (List UInt8)), k ≤ s.size ∧ f ≤ k ∧ i = .int .i64 k ∧ fr = .int .i64 f ∧ ps.length ≤ k ∧ ps ++ spb b ((s.data.toList.take k).drop f) (s.data.toList.drop k) = spb b [] s.data.toList ∧
      RowS wr w.heap.size v ps ∧ Below w.heap.size w wr) (fun _ _ i _ => s.size - (intOf i).toNat)
  case atStart => exact ⟨0, 0, [], Nat.zero_le _, Nat.le_refl _, rfl, rfl, Nat.le_refl _, by simp, World.ownsRow_nil _ _ _ _, Below.refl _ _⟩
  case round =>
    obtain ⟨k, f, ps, hk, hf, rfl, rfl, hpl, heq, hr, hb⟩ := hrel
    have HE := Lib.hid heq
    have HR := Lib.hid hr
    clear heq hr
    have sr := hb.size
    by_cases hlt : k < s.size
    · have b1 : (0 : Int) ≤ (k : Int) := by omega
      have b2 : (k : Int) < (s.size : Int) := by omega
      have HD : Hid (s.data.toList.drop k = (s[k]'hlt) :: s.data.toList.drop (k + 1)) := List.drop_eq_getElem_cons (by rw [HL.out]; exact hlt)
      have HT : Hid ((s.data.toList.take (k + 1)).drop f = (s.data.toList.take k).drop f ++ [s[k]'hlt]) := by
        unfold Hid
        rw [take_more s k hlt, List.drop_append_of_le_length (by rw [List.length_take, HL.out]; omega)]
      by_cases hc : s[k]'hlt = b
      · have e0 : (((s[k]'hlt).toNat : Int) == (b.toNat : Int)) = true := by rw [hc]; simp
        have HE2 : Hid ((ps ++ [(s.data.toList.take k).drop f]) ++ spb b ((s.data.toList.take (k + 1)).drop (k + 1)) (s.data.toList.drop (k + 1)) = spb b [] s.data.toList) := by
          have hz : (s.data.toList.take (k + 1)).drop (k + 1) = [] := List.drop_of_length_le (by rw [List.length_take]; omega)
          unfold Hid
          rw [hz, ← HE.out, HD.out, spb, if_pos hc]
          simp
        have HC := Lib.hid (cut_eq s f k)
        have f1 : (f : Int) ≤ (k : Int) := by omega
        clear hc
        go_wp2_with (at_builtin; refine wpList_append_own _ rfl _ _ 32 rfl w.heap.size 9 i0 (.string ByteArray.empty) 1 16 Tryd.underlying32 HI.out hz0 hz1 hz2 rfl (by decide) _ _ _ rfl (World.ownsRow.alloc HR.out _) ⟨wr.heap.size, 0, none⟩ 1 1 [.string (s.extract f k)] rfl rfl ?c1 ?c2 ?c3 ?c4 ?c5 ?_)
        case c1 =>
          intro j u hj
          match j, hj with
          | 0, hj => simp at hj; subst hj; simp [Addr.add]
        case c2 => intro u hu; simp at hu; subst hu; rfl
        case c3 => unfold maxLen; omega
        case c4 => omega
        case c5 => simp; omega
        intro v' w4 hown' hgrow _
        have R1 : Hid (RowS w4 w.heap.size v' (ps ++ [(s.data.toList.take k).drop f])) := by
          rw [HC.out] at hown'
          exact rowS_more hown'
        have R2 : Hid (Below w.heap.size w w4) := ((hb.alloc (by omega) _).grown hgrow (by simp; omega) (fun g hg => (World.ownsRow.lt HR.out g hg).1))
        clear hown' hgrow
        go_wp2
        go_roundw
        case rel => exact ⟨k + 1, k + 1, ps ++ [(s.data.toList.take k).drop f], by omega, Nat.le_refl _, by go_num, by go_num, by simp; omega, HE2.out, R1.out, R2.out⟩
        case measure => simp [intOf]; omega
      · have e0 : (((s[k]'hlt).toNat : Int) == (b.toNat : Int)) = false := by
          rw [beq_eq_false_iff_ne]
          intro h
          exact hc (UInt8.toNat_inj.1 (by omega))
        have HE2 : Hid (ps ++ spb b ((s.data.toList.take (k + 1)).drop f) (s.data.toList.drop (k + 1)) = spb b [] s.data.toList) := by
          unfold Hid
          rw [← HE.out, HD.out, HT.out, spb, if_neg hc]
        clear hc
        go_wp2
        go_roundw
        case rel => exact ⟨k + 1, f, ps, by omega, by omega, by go_num, rfl, by omega, HE2.out, HR.out, hb⟩
        case measure => simp [intOf]; omega
    · obtain rfl : k = s.size := by omega
      have f1 : (f : Int) ≤ (s.size : Int) := by omega
      have HC := Lib.hid (cut_eq s f s.size)
      have HE2 : Hid (ps ++ [(s.data.toList.take s.size).drop f] = spb b [] s.data.toList) := by
        have := HE.out
        rw [List.drop_of_length_le (show s.data.toList.length ≤ s.size by rw [HL.out]; exact Nat.le_refl _), spb] at this
        exact this
      go_wp2_with (at_builtin; refine wpList_append_own _ rfl _ _ 32 rfl w.heap.size 9 i0 (.string ByteArray.empty) 1 16 Tryd.underlying32 HI.out hz0 hz1 hz2 rfl (by decide) _ _ _ rfl (World.ownsRow.alloc HR.out _) ⟨wr.heap.size, 0, none⟩ 1 1 [.string (s.extract f s.size)] rfl rfl ?c1 ?c2 ?c3 ?c4 ?c5 ?_)
      case c1 =>
        intro j u hj
        match j, hj with
        | 0, hj => simp at hj; subst hj; simp [Addr.add]
      case c2 => intro u hu; simp at hu; subst hu; rfl
      case c3 => unfold maxLen; omega
      case c4 => omega
      case c5 => simp; omega
      intro v' w4 hown' hgrow _
      have R1 : Hid (RowS w4 w.heap.size v' (ps ++ [(s.data.toList.take s.size).drop f])) := by
        rw [HC.out] at hown'
        exact rowS_more hown'
      have R2 : Hid (Below w.heap.size w w4) := ((hb.alloc (by omega) _).grown hgrow (by simp; omega) (fun g hg => (World.ownsRow.lt HR.out g hg).1))
      clear hown' hgrow
      go_wp2
      go_ret
      exact ⟨_, rfl, by rw [← HE2.out]; exact R1.out, R2.out⟩
end Go.Proofs.YtgibkjjjnfjbkaaDoor
