/-
  Contracts: standard templates, in the model and in the program.
-/
import Derived.Test.YtmimilchldjkbaaDoorL2
import Derived.Test.YtmimilchldjkbaaDoorK6
import Derived.Test.YtmimilchldjkbaaDoorAQ
import Derived.Lib.SliceRun
namespace Go.Proofs.YtmimilchldjkbaaDoor
open Go.RowKit
set_option linter.unusedVariables false

theorem rowP_noneD (w : World) : (w.alloc (.cells #[] 133)).ownsRow w.heap.size 133 3 (.slice (some ⟨w.heap.size, 0, none⟩) 0 0) 0 (ints []) := by
  have := World.ownsRow_lit (base := w.heap.size) (e := 133) (size := 3) w #[] 0 (Nat.le_refl _) (by unfold maxLen; omega) (by simp)
  simpa [ints] using this
theorem rowP_ofD {w : World} {B n : Nat} {v : Value} {X Y : List Int} (h : w.ownsRow B 133 3 v n (ints X ++ ints Y)) : RowP w B v n (X ++ Y) := by
  unfold RowP
  rw [show ints (X ++ Y) = ints X ++ ints Y by simp [ints]]
  exact h
theorem src_threeD {w : World} {b : Nat} {x y z : Int} (h : Box3 w b x y z) : Src w 3 (some ⟨b, 0, none⟩) 1 1 (ints [x, y, z]) :=
  src_cells 3 rfl (fun e => by cases e) (fun _ => ⟨b, 0, rfl, fun k hk => by
    match k, hk with
    | 0, _ => simpa using h.c0
    | 1, _ => simpa using h.c1
    | 2, _ => simpa using h.c2⟩)
theorem src_seenP {w : World} {A : Option Addr} {n c : Nat} {xs : List Int} (h : SeenP w (.slice A n c) n xs) (h0 : 0 < n) : Src w 3 A n c (ints xs) := by
  obtain ⟨A', c', e, hm, hx, hA⟩ := h
  simp at e
  obtain ⟨rfl, rfl⟩ := e
  obtain ⟨b, off, rfl, hb, hc⟩ := hA h0
  exact src_cells 3 hx (fun e => by cases e) (fun _ => ⟨b, off, rfl, fun k hk => hc k (by omega)⟩)

set_option maxHeartbeats 1000000 in
theorem c_CloneO (n : Nat) (xs : List Int) (v : Value) (w : World) (hl : n ≤ 1000000) (h0 : 0 < n) (h : SeenP w v n xs) :
    Calls Tryd.prog 91 #[v] w (GivesP w n xs) := by
  obtain ⟨i0, hi0, hz0, hz1, hz2⟩ := info_parts offset_info
  have HI := Lib.hid hi0
  clear hi0
  obtain ⟨A, c, rfl, _⟩ := h.shape
  have HS := Lib.hid ((src_seenP h h0).alloc (.cells #[] 133))
  have HN := Lib.hid (rowP_noneD w)
  obtain ⟨b, off, rfl⟩ : ∃ b off, A = some ⟨b, off, none⟩ := by
    obtain ⟨A', c', e, _, _, hA⟩ := h
    simp at e
    obtain ⟨rfl, rfl⟩ := e
    obtain ⟨b, off, rfl, _⟩ := hA h0
    exact ⟨b, off, rfl⟩
  clear h
  have hnil : ∀ W, (binOp .eql 70 (.slice (some ⟨b, off, none⟩) n c) (.slice none 0 0)).run Tryd.prog W = .ok (.bool false) W := fun W => by
    rw [Lib.run_eql_slice_nil W _ _ _ _ _ _ _ Tryd.underlying70]; rfl
  go_enter Tryd.func91, Tryd.ntmps91
  go_wp2_with (at_builtin; refine wpList_append_src rfl _ _ 70 rfl (base := w.heap.size) Tryd.underlying70 HI.out hz0 hz1 hz2 rfl (by decide) rfl HN.out rfl HS.out ints_ones ?c3 ?c4 ?c5 ?_)
  case c3 => unfold maxLen; omega
  case c4 => omega
  case c5 => simp
  intro v' w4 hown' hgrow _
  have R1 := Lib.hid (rowP_ofD (X := []) hown')
  rw [List.nil_append] at R1
  have R2 : Hid (Below w.heap.size w w4) := ((Below.refl _ _).alloc (Nat.le_refl _) _).grown hgrow (by simp) (fun g hg => by simp [Value.ownBlock] at hg; omega)
  clear hown' hgrow
  go_wp2
  go_ret
  exact ⟨_, rfl, R1.out, R2.out⟩

set_option maxHeartbeats 4000000 in
theorem c_slStandard (k : Nat) (w : World) (k1 : 1 ≤ k) (k2 : k ≤ 4) :
    Calls Tryd.prog 50 #[.int .i64 k] w (GivesP w (stdN k) (stdX k)) := by
  obtain ⟨i0, hi0, hz0, hz1, hz2⟩ := info_parts offset_info
  have HI := Lib.hid hi0
  clear hi0
  have CH : Hid (∀ (dx dy up : Int) (u : World), -2 ≤ dx → dx ≤ 2 → -2 ≤ dy → dy ≤ 2 → 1 ≤ up → up ≤ 2 → Calls Tryd.prog 96 #[.int .i64 k, .int .i64 dx, .int .i64 dy, .int .i64 up] u fun e w' => e = .returned (.bool (hasS k dx dy up)) ∧ u = w') := fun dx dy up u a b c d e f => c_slHas k dx dy up u (by omega) (by omega) a b c d e f
  have HG : Hid (∀ a b c : Nat, b < 5 → c < 5 → stP k (a * 25 + b * 5 + c + 1) = stP k (a * 25 + b * 5 + c) ++ (if hasS k ((c : Int) - 2) ((b : Int) - 2) ((a : Int) + 1) then [(c : Int) - 2, (b : Int) - 2, (a : Int) + 1] else [])) := fun a b c hb hc => stP_go hb hc
  have HL : Hid (∀ t, (stP k t).length / 3 * 3 = (stP k t).length ∧ (stP k t).length ≤ 3 * t) := stP_three k
  have HE : Hid (stP k 50 = stdX k) := stP_all k (by omega)
  have HN : Hid ((stP k 50).length / 3 = stdN k) := by
    rw [HE.out]
    have := flat3_len (fun i => (stdT k).getD i (0, 0, 0)) (stdN k)
    unfold stdX
    rw [this]
    show _ / 3 = _
    omega
  have HZ : Hid (stP k 0 = []) := rfl
  generalize hasS k = hs at *
  generalize stdX k = X at *
  generalize stdN k = N at *
  generalize stP k = P at *
  go_enter Tryd.func50, Tryd.ntmps50
  go_wp2_with fail
  go_loopw [3, 4] (fun o i wr => ∃ a : Nat, a ≤ 2 ∧ i = .int .i64 ((a : Int) + 1) ∧ RowO wr w.heap.size o (P (a * 25)) ∧ Below w.heap.size w wr) (fun _ i _ => 3 - (intOf i).toNat)
  case atStart => exact ⟨0, by omega, by simp, by rw [Nat.zero_mul, HZ.out]; exact RowO.nil _ _, Below.refl _ _⟩
  case round =>
    obtain ⟨a, ha, rfl, hr, hb⟩ := hrel
    have HR := Lib.hid hr
    have HB := Lib.hid hb
    clear hr hb
    by_cases h2 : a < 2
    · have e1 : ((a : Int) + 1 ≤ 2) := by omega
      have iw : IntKind.i64.wrap ((a : Int) + 1 + 1) = (a : Int) + 1 + 1 := IntWalk.i64_in _ (by omega)
      go_wp2_with fail
      go_loopw [3, 5] (fun o i wr => ∃ b : Nat, b ≤ 5 ∧ i = .int .i64 ((b : Int) - 2) ∧ RowO wr w.heap.size o (P (a * 25 + b * 5)) ∧ Below w.heap.size w wr) (fun _ i _ => 5 - ((intOf i) + 2).toNat)
      case atStart => exact ⟨0, by omega, by simp, by simpa using HR.out, HB.out⟩
      case round =>
        obtain ⟨b, hb5, rfl, hr, hb⟩ := hrel
        have HR1 := Lib.hid hr
        have HB1 := Lib.hid hb
        clear hr hb
        by_cases h3 : b < 5
        · have e2 : ((b : Int) - 2 ≤ 2) := by omega
          have iw2 : IntKind.i64.wrap ((b : Int) - 2 + 1) = (b : Int) - 2 + 1 := IntWalk.i64_in _ (by omega)
          go_wp2_with fail
          go_loopw [3, 6] (fun o i wr => ∃ c : Nat, c ≤ 5 ∧ i = .int .i64 ((c : Int) - 2) ∧ RowO wr w.heap.size o (P (a * 25 + b * 5 + c)) ∧ Below w.heap.size w wr) (fun _ i _ => 5 - ((intOf i) + 2).toNat)
          case atStart => exact ⟨0, by omega, by simp, HR1.out, HB1.out⟩
          case round =>
            obtain ⟨c, hc5, rfl, hr, hb⟩ := hrel
            have HR2 := Lib.hid hr
            have HB2 := Lib.hid hb
            clear hr hb
            by_cases h4 : c < 5
            · have e3 : ((c : Int) - 2 ≤ 2) := by omega
              have iw3 : IntKind.i64.wrap ((c : Int) - 2 + 1) = (c : Int) - 2 + 1 := IntWalk.i64_in _ (by omega)
              have HGo := Lib.hid (HG.out a b c h3 h4)
              have HLt := Lib.hid (HL.out (a * 25 + b * 5 + c))
              go_wp2_with fail
              refine (CH.out _ _ _ _ (by omega) (by omega) (by omega) (by omega) (by omega) (by omega)).mono ?_
              rintro e w1 ⟨rfl, rfl⟩
              cases hh : hs ((c : Int) - 2) ((b : Int) - 2) ((a : Int) + 1)
              · rw [hh] at HGo
                clear hh
                go_wp2_with fail
                go_roundw
                case rel => exact ⟨c + 1, by omega, by rw [show ((c + 1 : Nat) : Int) - 2 = (c : Int) - 2 + 1 by omega], by have := HGo.out; simp at this; rw [← Nat.add_assoc, this]; exact HR2.out, HB2.out⟩
                case measure => simp [intOf]; omega
              · rw [hh] at HGo
                clear hh
                generalize P (a * 25 + b * 5 + c) = Y at *
                obtain ⟨YA, YC, hyv⟩ := HR2.out.shape
                subst hyv
                have hy1 : Y.length ≤ 1000 := by have := HLt.out.2; omega
                have HY1 := Lib.hid hy1
                have sw := HB2.out.size
                go_wp2_with (at_builtin; refine wpList_append_src rfl _ _ 70 rfl (base := w.heap.size) Tryd.underlying70 HI.out hz0 hz1 hz2 rfl (by decide) rfl (World.ownsRow.alloc HR2.out _) rfl (src_threeD (Box3.new _ _ _ _ _)) ints_ones ?c3 ?c4 ?c5 ?_)
                case c3 => have := HY1.out; unfold maxLen; omega
                case c4 => have := HY1.out; omega
                case c5 => simp; omega
                intro v' w4 hown' hgrow _
                have R1 := Lib.hid (RowP.rowO (rowP_ofD hown'))
                have R2 : Hid (Below w.heap.size w w4) := (HB2.out.alloc sw _).grown hgrow (by simp; omega) (fun g hg => (World.ownsRow.lt HR2.out g hg).1)
                clear hown' hgrow
                go_wp2_with fail
                go_roundw
                case rel => exact ⟨c + 1, by omega, by rw [show ((c + 1 : Nat) : Int) - 2 = (c : Int) - 2 + 1 by omega], by have := HGo.out; simp only [if_true] at this; rw [← Nat.add_assoc, this]; exact R1.out, R2.out⟩
                case measure => simp [intOf]; omega
            · obtain rfl : c = 5 := by omega
              go_wp2_with fail
              go_roundw
              case rel => exact ⟨b + 1, by omega, by rw [show ((b + 1 : Nat) : Int) - 2 = (b : Int) - 2 + 1 by omega], by rw [show a * 25 + (b + 1) * 5 = a * 25 + b * 5 + 5 by omega]; exact HR2.out, HB2.out⟩
              case measure => simp [intOf]; omega
        · obtain rfl : b = 5 := by omega
          go_wp2_with fail
          go_roundw
          case rel => exact ⟨a + 1, by omega, by rw [show ((a + 1 : Nat) : Int) + 1 = (a : Int) + 1 + 1 by omega], by rw [show (a + 1) * 25 = a * 25 + 5 * 5 by omega]; exact HR1.out, HB1.out⟩
          case measure => simp [intOf]; omega
    · obtain rfl : a = 2 := by omega
      have HF : Hid (RowP wr w.heap.size u3 N X) := by
        have := HR.out
        unfold RowO at this
        rw [show 2 * 25 = 50 from rfl, HN.out, HE.out] at this
        exact this
      go_wp2
      go_ret
      exact ⟨_, rfl, HF.out, HB.out⟩

/-- A list of offsets and a bool. -/
def GivesP2 (w : World) (n : Nat) (xs : List Int) (b : Bool) (e : Ending) (w' : World) : Prop := ∃ v, e = .returned (.tuple #[v, .bool b]) ∧ RowP w' w.heap.size v n xs ∧ Below w.heap.size w w'
def tofB (k : Int) : Bool := decide (1 ≤ k ∧ k ≤ 4)
def tofN (k : Int) : Nat := if tofB k = true then stdN k.toNat else 0
def tofX (k : Int) : List Int := if tofB k = true then stdX k.toNat else []
theorem tofN_le (k : Int) : tofN k ≤ 1000000 := by
  unfold tofN
  split
  · have := stdN_box k.toNat; omega
  · omega
theorem RowP.nil (w : World) (B : Nat) : RowP w B (.slice none 0 0) 0 [] := World.ownsRow_nil _ _ _ _
theorem tof_no {k : Int} (h : tofB k = false) : tofN k = 0 ∧ tofX k = [] := by unfold tofN tofX; rw [h]; simp
theorem tof_yes {k : Nat} (h : tofB k = true) : tofN k = stdN k ∧ tofX k = stdX k := by unfold tofN tofX; rw [h]; simp

set_option maxHeartbeats 1000000 in
theorem c_TemplateOf (k : Int) (w : World) (ht : TAB w) : Calls Tryd.prog 41 #[.int .i64 k] w (GivesP2 w (tofN k) (tofX k) (tofB k)) := by
  cases hb : tofB k
  · obtain ⟨e1, e2⟩ := tof_no hb
    rw [e1, e2]
    have hk : ¬ (1 ≤ k ∧ k ≤ 4) := of_decide_eq_false hb
    clear hb e1 e2
    by_cases h1 : k < 1
    · go_enter Tryd.func41, Tryd.ntmps41
      go_wp2
      go_ret2
      exact ⟨_, rfl, RowP.nil _ _, Below.refl _ _⟩
    · have h2 : 4 < k := by omega
      go_enter Tryd.func41, Tryd.ntmps41
      go_wp2
      go_ret2
      exact ⟨_, rfl, RowP.nil _ _, Below.refl _ _⟩
  · obtain ⟨h1, h2⟩ := of_decide_eq_true hb
    obtain ⟨m, rfl⟩ : ∃ m : Nat, k = ((m + 1 : Nat) : Int) := ⟨(k - 1).toNat, by omega⟩
    obtain ⟨e1, e2⟩ := tof_yes hb
    rw [e1, e2]
    obtain ⟨A, c, hc, hs⟩ := ht.at_ m (by omega)
    have hn := stdN_box (m + 1)
    have CC := Lib.hid (c_CloneO (stdN (m + 1)) (stdX (m + 1)) _ w (by omega) (by omega) hs)
    have iz : IntKind.i64.wrap (m : Int) = (m : Int) := IntWalk.i64_in _ (by omega)
    have iv : IntKind.i64.wrap (((m + 1 : Nat) : Int) - 1) = (m : Int) := by rw [show (((m + 1 : Nat) : Int) - 1) = (m : Int) by omega]; exact iz
    have b1 : ¬ ((m + 1 : Nat) : Int) < 1 := by omega
    have b2 : ¬ 4 < ((m + 1 : Nat) : Int) := by omega
    have b3 : (0 : Int) ≤ (m : Int) := by omega
    have b4 : (m : Int) < 4 := by omega
    clear hb e1 e2 hs
    generalize stdN (m + 1) = n at *
    generalize stdX (m + 1) = X at *
    go_enter Tryd.func41, Tryd.ntmps41
    go_wp2_with fail
    refine CC.out.mono ?_
    rintro e w2 ⟨v, rfl, hr, hb⟩
    have HR := Lib.hid hr
    have HB := Lib.hid hb
    clear hr hb
    go_wp2
    go_ret2
    exact ⟨_, rfl, HR.out, HB.out⟩
end Go.Proofs.YtmimilchldjkbaaDoor
