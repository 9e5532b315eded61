/-
  Contracts: the network of arcs and values in the program.
-/
import Derived.Test.YthfmgclndokknaaPB0
import Derived.Deep.RegionWith
namespace Go.Proofs.Ythfmgclndokknaa
open Go.RowKit
set_option linter.unusedVariables false

structure PitOk (xss : List (List Int)) (vs : List Int) : Prop where
  arcs : arcB xss = true
  len : vs.length = xss.length
  wide : ∀ k, k < xss.length → -1000000000 ≤ vs.getD k 0 ∧ vs.getD k 0 ≤ 1000000000
theorem PitOk.of {xss : List (List Int)} {vs : List Int} (h : pgB xss vs = true) : PitOk xss vs := by
  obtain ⟨ha, hv⟩ := pg_true h
  have e := (val_yes hv).1
  exact ⟨ha, by omega, fun k hk => val_wide hv k (by omega)⟩

theorem c_nodeOf (x : Int) (w : World) (h1 : -1 ≤ x) (h2 : x ≤ 4000000) : Calls Try.prog 56 #[.int .i64 x] w fun e w' => e = .returned (.int .i64 (x + 1)) ∧ w = w' := by
  go_enter Try.func56, Try.ntmps56
  go_wp2
  go_ret
  exact ⟨by go_num, rfl⟩

set_option maxHeartbeats 1000000 in
theorem c_sink (A A2 : Option Addr) (n c n2 c2 : Nat) (w : World) (hn : n ≤ 1000) :
    Calls Try.prog 31 #[.agg #[.slice A n c, .slice A2 n2 c2]] w fun e w' => e = .returned (.int .i64 ((n : Int) + 1)) ∧ Below w.heap.size w w' := by
  have HB : Hid (Below w.heap.size w (w.alloc (.cells #[.slice A n c, .slice A2 n2 c2] 44))) := (Below.refl _ _).alloc (Nat.le_refl _) _
  go_enter Try.func31, Try.ntmps31
  go_wp2_with fail
  refine (c_nodeOf (n : Int) _ (by omega) (by omega)).mono ?_
  rintro e w1 ⟨rfl, rfl⟩
  go_wp2
  go_ret
  exact ⟨rfl, HB.out⟩

/-- The problem's two slices in its copy. -/
theorem rowP_one (w : World) (a b c : Int) : RowP (w.alloc (.cells #[.int .i64 a, .int .i64 b, .int .i64 c] 49)) w.heap.size (.slice (some ⟨w.heap.size, 0, none⟩) 1 1) 1 [a, b, c] := by
  have := World.ownsRow_lit (base := w.heap.size) (e := 49) (size := 3) w #[.int .i64 a, .int .i64 b, .int .i64 c] 1 (Nat.le_refl _) (by unfold maxLen; omega) (by simp)
  exact this
theorem rowP_at (w : World) (g : Nat) (a b c : Int) (h : w.heap.size = g) : RowP (w.alloc (.cells #[.int .i64 a, .int .i64 b, .int .i64 c] 49)) g (.slice (some ⟨g, 0, none⟩) 1 1) 1 [a, b, c] := by
  subst h
  exact rowP_one w a b c

set_option maxHeartbeats 4000000 in
set_option maxRecDepth 100000 in
theorem c_valueEdges (n k c c2 : Nat) (A : Option Addr) (vs : List Int) (A2 : Option Addr) (w : World) (hn : n ≤ 1000) (hk : k < n) (hl : vs.length = n) (hv : -1000000000 ≤ vs.getD k 0 ∧ vs.getD k 0 ≤ 1000000000) (hu : Seen w (.slice A2 n c2) vs) :
    Calls Try.prog 54 #[.agg #[.slice A n c, .slice A2 n c2], .int .i64 k] w (GivesP w (vN (vs.getD k 0)) (vE n k (vs.getD k 0))) := by
  obtain ⟨b2, o2, c2', e2, hb2l, q1⟩ := hu.at_ (k := k) (by omega)
  simp at e2
  obtain ⟨rfl, e9, rfl⟩ := e2
  clear e9 hu hl
  have HB : Hid (Below w.heap.size w (w.alloc (.cells #[.slice A n c, .slice (some ⟨b2, o2, none⟩) n c2] 44))) := (Below.refl _ _).alloc (Nat.le_refl _) _
  have HC : Hid ((w.alloc (.cells #[.slice A n c, .slice (some ⟨b2, o2, none⟩) n c2] 44)).cell? ⟨b2, o2 + k, none⟩ = some (.int .i64 (vs.getD k 0))) := by show _ = _; rw [HB.out.cell (p := ⟨b2, o2 + k, none⟩) hb2l]; exact q1
  have nb : b2 ≠ w.heap.size := Nat.ne_of_lt hb2l
  obtain ⟨h1, h2⟩ := hv
  generalize vs.getD k 0 = x at *
  have b1 : (0 : Int) ≤ (k : Int) := by omega
  have b2' : (k : Int) < (n : Int) := by omega
  by_cases hp : 0 < x
  · obtain ⟨f1, f2⟩ := vE_pos (n := n) (i := k) hp
    rw [f1, f2]
    clear f1 f2
    go_enter Try.func54, Try.ntmps54
    go_wp2_with fail
    refine (c_nodeOf (k : Int) _ (by omega) (by omega)).mono ?_
    rintro e w1 ⟨rfl, rfl⟩
    go_wp2
    go_ret
    exact ⟨_, rfl, (rowP_at _ _ _ _ _ (by simp)).mono (Nat.le_add_right _ 1), HB.out.alloc HB.out.size _⟩
  · by_cases hq : x < 0
    · obtain ⟨f1, f2⟩ := vE_neg (n := n) (i := k) hq
      rw [f1, f2]
      clear f1 f2
      have CS : Hid (∀ u, Calls Try.prog 31 #[.agg #[.slice A n c, .slice (some ⟨b2, o2, none⟩) n c2]] u fun e w' => e = .returned (.int .i64 ((n : Int) + 1)) ∧ Below u.heap.size u w') := fun u => c_sink A _ n c n c2 u hn
      go_enter Try.func54, Try.ntmps54
      go_wp2_with fail
      have hw : IntKind.i64.wrap (-x) = -x := IntWalk.i64_in _ (by omega)
      go_region_with (first
        | (go_at_call 56; refine (c_nodeOf (k : Int) _ (by omega) (by omega)).mono ?_; rintro e w1 ⟨rfl, rfl⟩)
        | (go_at_call 31; refine (CS.out _).mono ?_; rintro e w1 ⟨rfl, hb⟩))
      all_goals (
        rename_i w1 hb
        have HB1 : Hid (Below w.heap.size w w1) := HB.out.drew.trans (hb.mono HB.out.size)
        have HZ := Lib.hid hb.size
        clear hb
        go_wp2
        go_ret
        exact ⟨_, rfl, (rowP_at _ _ _ _ _ rfl).mono HB1.out.size, HB1.out.alloc HB1.out.size _⟩)
    · obtain ⟨f1, f2⟩ := vE_zero (n := n) (i := k) hp hq
      rw [f1, f2]
      clear f1 f2
      go_enter Try.func54, Try.ntmps54
      go_wp2
      go_ret
      exact ⟨_, rfl, RowP.nil _ _, HB.out⟩

set_option maxHeartbeats 4000000 in
set_option maxRecDepth 100000 in
theorem c_arcEdges (n k c c2 m2 : Nat) (xss : List (List Int)) (A : Option Addr) (A2 : Option Addr) (w : World) (hn : n ≤ 120) (hk : k < n) (hl : xss.length = n) (hr : risB k (xss.getD k []) = true) (h : SeenL w (.slice A n c) xss) :
    Calls Try.prog 55 #[.agg #[.slice A n c, .slice A2 m2 c2], .int .i64 k] w (GivesP w (xss.getD k []).length (aE k (xss.getD k []) (xss.getD k []).length)) := by
  obtain ⟨i0, hi0, hz0, hz1, hz2⟩ := info_parts edge_info
  have HI := Lib.hid hi0
  subst hl
  obtain ⟨b, off, A', c', rfl, hbl, q0, hys⟩ := h.at_ (k := k) hk
  have hyl := ris_len hr (by omega)
  have HB : Hid (Below w.heap.size w (w.alloc (.cells #[.slice (some ⟨b, off, none⟩) xss.length c, .slice A2 m2 c2] 44))) := (Below.refl _ _).alloc (Nat.le_refl _) _
  have p0 : (w.alloc (.cells #[.slice (some ⟨b, off, none⟩) xss.length c, .slice A2 m2 c2] 44)).cell? ⟨b, off + k, none⟩ = some (.slice A' (xss.getD k []).length c') := by rw [HB.out.cell (p := ⟨b, off + k, none⟩) hbl]; exact q0
  have nb : b ≠ w.heap.size := Nat.ne_of_lt hbl
  have HYs : Hid (∀ t, t < (xss.getD k []).length → ∃ b off, A' = some ⟨b, off, none⟩ ∧ b < w.heap.size ∧ w.cell? ⟨b, off + t, none⟩ = some (.int .i64 ((xss.getD k []).getD t 0))) := fun t ht => by
    obtain ⟨b3, o3, c3', e3, hb3, hc3⟩ := hys.at_ (k := t) ht
    simp at e3
    obtain ⟨rfl, rfl⟩ := e3
    exact ⟨b3, o3, rfl, hb3, hc3⟩
  have HBx : Hid (∀ t, t < (xss.getD k []).length → 0 ≤ (xss.getD k []).getD t 0 ∧ (xss.getD k []).getD t 0 < (k : Int)) := fun t ht => ris_box hr ht
  clear h hys hr hi0
  generalize xss.getD k [] = ys at *
  generalize xss.length = n at *
  have b1 : (0 : Int) ≤ (k : Int) := by omega
  have b2 : (k : Int) < (n : Int) := by omega
  have HZ : Hid (w.heap.size < (w.alloc (.cells #[.slice (some ⟨b, off, none⟩) n c, .slice A2 m2 c2] 44)).heap.size) := by simp [Hid]
  go_enter Try.func55, Try.ntmps55
  go_wp2_with fail
  clear p0
  go_loopw [5, 14] (fun q i wr => ∃ t : Nat, t ≤ ys.length ∧ i = .int .i64 t ∧ RowP wr w.heap.size q t (aE k ys t) ∧ Below w.heap.size w wr) (fun _ i _ => ys.length - (RowKit.intOf i).toNat)
  case atStart => exact ⟨0, Nat.zero_le _, rfl, RowP.nil _ _, HB.out⟩
  case round =>
    obtain ⟨t, ht, rfl, hr, hb⟩ := hrel
    have HRt := Lib.hid hr
    have HBt := Lib.hid hb
    clear hr hb
    by_cases htl : t < ys.length
    · obtain ⟨b3, o3, e3, hb3l, hc3⟩ := HYs.out t htl
      obtain rfl := e3
      have q3 : wr.cell? ⟨b3, o3 + t, none⟩ = some (.int .i64 (ys.getD t 0)) := by rw [HBt.out.cell (p := ⟨b3, o3 + t, none⟩) hb3l]; exact hc3
      obtain ⟨z1, z2⟩ := HBx.out t htl
      have HT : Hid (aE k ys (t + 1) = aE k ys t ++ [(k : Int) + 1, ys.getD t 0 + 1, 1000000000]) := rfl
      clear hc3 hb3l
      generalize ys.getD t 0 = y at *
      have d1 : (0 : Int) ≤ (t : Int) := by omega
      have d2 : (t : Int) < (ys.length : Int) := by omega
      have sw := HBt.out.size
      go_wp2_with fail
      refine (c_nodeOf (k : Int) _ (by omega) (by omega)).mono ?_
      rintro e w1 ⟨rfl, rfl⟩
      go_wp2_with fail
      refine (c_nodeOf y _ (by omega) (by omega)).mono ?_
      rintro e w1 ⟨rfl, rfl⟩
      go_wp2_with (at_builtin; refine wpList_append_own _ rfl _ _ 25 rfl (w.heap.size) 49 i0 (.agg #[.int .i64 0, .int .i64 0, .int .i64 0]) 3 24 Try.underlying25 HI.out hz0 hz1 hz2 rfl (by decide) _ _ _ rfl (World.ownsRow.alloc HRt.out _) ⟨wr.heap.size, 0, none⟩ 1 1 [.int .i64 ((k : Int) + 1), .int .i64 (y + 1), .int .i64 1000000000] rfl rfl (news3 _ _ _ _ _) (ones3 _ _ _) ?c3 ?c4 ?c5 ?_)
      case c3 => unfold maxLen; omega
      case c4 => omega
      case c5 => first | omega | (simp; omega)
      intro v' w5 hown' hgrow _
      have R1 : Hid (RowP w5 w.heap.size v' (t + 1) (aE k ys (t + 1))) := by rw [HT.out]; exact edgP_snoc hown'
      have R2 : Hid (Below w.heap.size w w5) := (HBt.out.alloc sw _).grown hgrow (by simp; omega) (fun g hg => (World.ownsRow.lt HRt.out g hg).1)
      clear hown' hgrow
      go_wp2
      go_roundw
      case rel => exact ⟨t + 1, by omega, by go_num, R1.out, R2.out⟩
      case measure => simp [RowKit.intOf]; omega
    · obtain rfl : t = ys.length := by omega
      go_wp2
      go_ret
      exact ⟨_, rfl, HRt.out, HBt.out⟩
end Go.Proofs.Ythfmgclndokknaa
