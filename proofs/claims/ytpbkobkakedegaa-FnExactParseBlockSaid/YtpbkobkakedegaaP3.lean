/-
  Contracts of ParseBlock, in the program and in the model: one value for both.
-/
import Derived.Test.YtpbkobkakedegaaP2
namespace Go.Proofs.Ytpbkobkakedegaa
open Go.RowKit

theorem c44 (b : UInt8) : ((b.toNat : Int) = 44) ↔ b = 44 := by
  constructor
  · intro h
    exact UInt8.toNat_inj.1 (by have : (44 : UInt8).toNat = 44 := rfl; omega)
  · rintro rfl; rfl
theorem cdig (b : UInt8) : digitB (b.toNat : Int) = dig b := by unfold digitB dig; exact decide_eq_decide.2 (by omega)
theorem name_eq (s : ByteArray) : nameB s = nameL s.data.toList := by
  unfold nameB okAt byteAt
  have h : s.size = s.data.toList.length := by simp
  rw [h]
  generalize s.data.toList = l
  match l with
  | [] => rfl
  | [a] => rfl
  | [a, b] => rfl
  | [a, b, c] => rfl
  | [a, b, c, d] => rfl
  | [a, b, c, d, e] => simp [nameL, cdig, c44]
  | a :: b :: c :: d :: e :: f :: r =>
    have : (a :: b :: c :: d :: e :: f :: r).length ≠ 5 := by simp
    simp [nameL]
theorem name_vals {s : ByteArray} {a c e : UInt8} (h : s.data.toList = [a, 44, c, 44, e]) (hn : nameB s = true) :
    nmV s 0 = (a.toNat : Int) - 48 ∧ nmV s 1 = (c.toNat : Int) - 48 ∧ nmV s 2 = (e.toNat : Int) - 48 := by
  unfold nmV byteAt
  rw [hn, h]
  exact ⟨rfl, rfl, rfl⟩

def pbB (x y z : Int) (s : ByteArray) : Bool := nameB s && atB x y z (nmV s 0) (nmV s 1) (nmV s 2)
def pbV (x y z : Int) (s : ByteArray) : Int := if pbB x y z s then atW x y z (nmV s 0) (nmV s 1) (nmV s 2) else 0

/-- The model's parts of a name that is none, on a valid grid: no block is there. -/
theorem parts_no {x y z : Int} {s : ByteArray} {p q r : List UInt8} (hg : goodB x y z = true) (h : sp [] s.data.toList = [p, q, r]) (hn : nameB s = false) : inB x y z (rdL p) (rdL q) (rdL r) = false := by
  cases hi : inB x y z (rdL p) (rdL q) (rdL r)
  · rfl
  · obtain ⟨x1, x2, y1, y2, z1, z2, _⟩ := good_box hg
    obtain ⟨⟨a1, a2⟩, ⟨b1, b2⟩, c1, c2⟩ := of_decide_eq_true hi
    have := name_of_sp h ⟨a1, by omega⟩ ⟨b1, by omega⟩ ⟨c1, by omega⟩
    rw [name_eq, this] at hn
    cases hn
theorem parts_yes {s : ByteArray} (hn : nameB s = true) : ∃ p q r, sp [] s.data.toList = [p, q, r] ∧ rdL p = nmV s 0 ∧ rdL q = nmV s 1 ∧ rdL r = nmV s 2 := by
  obtain ⟨a, c, e, hl, ha, hc, he⟩ := name_form (by rw [← name_eq]; exact hn)
  obtain ⟨v0, v1, v2⟩ := name_vals hl hn
  exact ⟨[a], [c], [e], by rw [hl]; exact sp_name ha hc he, by rw [rd_one ha, v0], by rw [rd_one hc, v1], by rw [rd_one he, v2]⟩

/-- Three parts: what is found is the program's. -/
theorem parts_val {x y z : Int} {s : ByteArray} {p q r : List UInt8} (hg : goodB x y z = true) (h : sp [] s.data.toList = [p, q, r]) :
    (pbB x y z s = false ∧ atV x y z (rdL p) (rdL q) (rdL r) = -1) ∨ (pbB x y z s = true ∧ 0 ≤ atV x y z (rdL p) (rdL q) (rdL r) ∧ pbV x y z s = atV x y z (rdL p) (rdL q) (rdL r)) := by
  cases hn : nameB s
  · left
    have := parts_no hg h hn
    exact ⟨by unfold pbB; rw [hn]; rfl, if_neg (by rw [this]; simp)⟩
  · obtain ⟨p', q', r', h', e0, e1, e2⟩ := parts_yes hn
    rw [h] at h'
    injection h' with h1 h'
    injection h' with h2 h'
    injection h' with h3 _
    subst h1 h2 h3
    rw [e0, e1, e2]
    cases hi : inB x y z (nmV s 0) (nmV s 1) (nmV s 2)
    · left
      exact ⟨by unfold pbB atB; rw [hi]; simp, if_neg (by rw [hi]; simp)⟩
    · right
      obtain ⟨x1, x2, y1, y2, z1, z2, _⟩ := good_box hg
      have hb : pbB x y z s = true := by unfold pbB atB; rw [hn, hg, hi]; rfl
      have hv : atV x y z (nmV s 0) (nmV s 1) (nmV s 2) = (nmV s 2 * y + nmV s 1) * x + nmV s 0 := if_pos hi
      have hbx := at_box x2 y2 z2 (of_decide_eq_true hi)
      have hh := of_decide_eq_true hi
      refine ⟨hb, by rw [hv]; omega, ?_⟩
      unfold pbV atW atB
      rw [hb, hg, hi, hv]
      rfl
theorem parts_short {x y z : Int} {s : ByteArray} (h : (sp [] s.data.toList).length ≠ 3) : pbB x y z s = false := by
  unfold pbB
  cases hn : nameB s
  · rfl
  · obtain ⟨p, q, r, h', _⟩ := parts_yes hn
    rw [h'] at h
    exact absurd rfl h
theorem pbV_no {x y z : Int} {s : ByteArray} (h : pbB x y z s = false) : pbV x y z s = 0 := if_neg (by rw [h]; simp)

set_option maxHeartbeats 1000000 in
theorem c_ParseBlock (x y z : Int) (s : ByteArray) (w : World) : Calls Try.prog 36 #[.agg #[.int .i64 x, .int .i64 y, .int .i64 z], .string s] w fun e w' => e = .returned (.tuple #[.int .i64 (pbV x y z s), .bool (pbB x y z s)]) ∧ Below w.heap.size w w' := by
  cases hn : nameB s
  · have hb : pbB x y z s = false := by unfold pbB; rw [hn]; rfl
    rw [pbV_no hb, hb]
    clear hb
    go_enter Try.func36, Try.ntmps36
    go_wp2_with fail
    refine (c_scanName _ _).mono ?_
    rintro e w1 ⟨rfl, hb1⟩
    have s1 := hb1.size
    simp at s1
    go_wp2
    go_ret2
    exact ⟨rfl, (((Below.refl _ _).alloc (Nat.le_refl _) _).trans (hb1.mono (by simp))).alloc (by omega) _⟩
  · have hB : pbB x y z s = atB x y z (nmV s 0) (nmV s 1) (nmV s 2) := by unfold pbB; rw [hn]; rfl
    have hV : pbV x y z s = atW x y z (nmV s 0) (nmV s 1) (nmV s 2) := by
      unfold pbV
      rw [hB]
      split
      · rfl
      · rename_i h; exact (if_neg h).symm
    rw [hV, hB]
    clear hV hB
    go_enter Try.func36, Try.ntmps36
    go_wp2_with fail
    refine (c_scanName _ _).mono ?_
    rintro e w1 ⟨rfl, hb1⟩
    obtain ⟨hc1, hf1⟩ := bcell hb1
    have s1 := hb1.size
    simp at s1
    have t1 : w.heap.size < w1.heap.size := by omega
    have t2 : w.heap.size ≠ w1.heap.size := by omega
    go_wp2_with fail
    refine (c_BlockAt _ _ _ _ _ _ _).mono ?_
    rintro e w2 ⟨rfl, hb2⟩
    go_wp2
    go_ret2
    exact ⟨rfl, ((((Below.refl _ _).alloc (Nat.le_refl _) _).trans (hb1.mono (by simp))).alloc (by omega) _).trans (hb2.mono (by simp; omega))⟩

theorem RowS.below {w w' : World} {B : Nat} {v : Value} {ps : List (List UInt8)} (h : RowS w B v ps) (hb : Below w.heap.size w w') : RowS w' B v ps :=
  World.ownsRow.kept (row := none) h ⟨hb.os, hb.tape, hb.output, hb.size, fun k hk _ => hb.block k hk⟩ (by cases v.ownBlock <;> simp)
theorem RowS.shape {w : World} {B : Nat} {v : Value} {ps : List (List UInt8)} (h : RowS w B v ps) : ∃ A c, v = .slice A ps.length c := by
  rcases h.2 with ⟨rfl, h0⟩ | ⟨g, cap, cur, rfl, _⟩
  · exact ⟨none, 0, by rw [h0]⟩
  · exact ⟨_, _, rfl⟩

theorem c_l1ReadL (p : List UInt8) (w : World) : Calls Try.prog 60 #[.string ⟨p.toArray⟩] w fun e w' => e = .returned (.int .i64 (rdL p)) ∧ w = w' := by
  have := c_l1Read ⟨p.toArray⟩ w
  simpa using this
theorem three_of {α : Type} {l : List α} (h : l.length = 3) : ∃ p q r, l = [p, q, r] := by
  match l, h with
  | [p, q, r], _ => exact ⟨p, q, r, rfl⟩
theorem RowS.three {w : World} {B : Nat} {v : Value} {p q r : List UInt8} (h : RowS w B v [p, q, r]) :
    ∃ g c, v = .slice (some ⟨g, 0, none⟩) 3 c ∧ g < w.heap.size ∧ w.cell? ⟨g, 0, none⟩ = some (.string ⟨p.toArray⟩) ∧ w.cell? ⟨g, 1, none⟩ = some (.string ⟨q.toArray⟩) ∧ w.cell? ⟨g, 2, none⟩ = some (.string ⟨r.toArray⟩) := by
  obtain ⟨g, c, rfl, _, hlt⟩ := World.ownsRow.form h (by simp)
  refine ⟨g, c, rfl, hlt, ?_, ?_, ?_⟩
  · rw [World.ownsRow.cellAt h 0 (by simp)]; rfl
  · rw [World.ownsRow.cellAt h 1 (by simp)]; rfl
  · rw [World.ownsRow.cellAt h 2 (by simp)]; rfl

set_option maxHeartbeats 1000000 in
theorem c_ParseBlockS (x y z : Int) (s : ByteArray) (w : World) (hs : s.size ≤ 1048576) : Calls Try.prog 35 #[.agg #[.int .i64 x, .int .i64 y, .int .i64 z], .string s] w fun e w' => e = .returned (.tuple #[.int .i64 (pbV x y z s), .bool (pbB x y z s)]) ∧ Below w.heap.size w w' := by
  have hlen := sp_len s.data.toList []
  have hsz : s.data.toList.length = s.size := by simp
  rw [hsz] at hlen
  clear hsz
  cases hg : goodB x y z
  · have hb : pbB x y z s = false := by unfold pbB atB; rw [hg]; simp
    rw [pbV_no hb, hb]
    clear hb
    go_enter Try.func35, Try.ntmps35
    go_wp2_with fail
    refine (c_l1Split _ _ hs).mono ?_
    rintro e w1 ⟨v1, rfl, hr1, hb1⟩
    clear hr1
    obtain ⟨hc1, hf1⟩ := bcell hb1
    have s1 := hb1.size
    simp at s1
    go_wp2_with fail
    refine (c_grGood _ _ _ _).mono ?_
    rintro e w2 ⟨rfl, hb2⟩
    go_wp2
    go_ret2
    exact ⟨rfl, (((Below.refl _ _).alloc (Nat.le_refl _) _).trans (hb1.mono (by simp))).trans (hb2.mono (by omega))⟩
  · by_cases h3 : (sp [] s.data.toList).length = 3
    · obtain ⟨p, q, r, h⟩ := three_of h3
      have PV := parts_val (x := x) (y := y) (z := z) hg h
      obtain ⟨x1, x2, y1, y2, z1, z2, p1, p2, q1, q2⟩ := good_box hg
      have hp := rd_bd p
      have hq := rd_bd q
      have hr := rd_bd r
      have HS := Lib.hid h
      clear h h3 hlen
      have HC : Hid (∀ u : World, Calls Try.prog 41 #[.agg #[.int .i64 x, .int .i64 y, .int .i64 z], .int .i64 (rdL p), .int .i64 (rdL q), .int .i64 (rdL r)] u fun e w' => e = .returned (.int .i64 (atV x y z (rdL p) (rdL q) (rdL r))) ∧ Below u.heap.size u w') := fun u => c_grAt _ _ _ _ _ _ _ x1 x2 y1 y2 z1 z2
      generalize atV x y z (rdL p) (rdL q) (rdL r) = t at PV HC
      rcases PV with ⟨hB, ht⟩ | ⟨hB, ht, hV⟩
      · subst ht
        rw [pbV_no hB, hB]
        clear hB
        go_enter Try.func35, Try.ntmps35
        go_wp2_with fail
        refine (c_l1Split _ _ hs).mono ?_
        rintro e w1 ⟨v1, rfl, hr1, hb1⟩
        rw [HS.out] at hr1
        obtain ⟨g, cp, hv, hg1, k0, k1, k2⟩ := hr1.three
        rw [hv]
        clear hr1 hv
        obtain ⟨hc1, hf1⟩ := bcell hb1
        have s1 := hb1.size
        simp at s1
        go_wp2_with fail
        refine (c_grGood _ _ _ _).mono ?_
        rintro e w2 ⟨rfl, hb2⟩
        have s2 := hb2.size
        have m0 : w2.cell? ⟨g, 0, none⟩ = some (.string ⟨p.toArray⟩) := (hb2.cell (p := ⟨g, 0, none⟩) hg1).trans k0
        have m1 : w2.cell? ⟨g, 1, none⟩ = some (.string ⟨q.toArray⟩) := (hb2.cell (p := ⟨g, 1, none⟩) hg1).trans k1
        have m2 : w2.cell? ⟨g, 2, none⟩ = some (.string ⟨r.toArray⟩) := (hb2.cell (p := ⟨g, 2, none⟩) hg1).trans k2
        have hg2 : g < w2.heap.size := by omega
        have t1 : w.heap.size < w1.heap.size := by omega
        have t2 : w.heap.size < w2.heap.size := by omega
        have n0 : w2.cell? ⟨w.heap.size, 0, none⟩ = some (.int .i64 x) := by rw [hb2.cell (p := ⟨w.heap.size, 0, none⟩) t1, hc1 _ _ (by simp)]; simp
        have n1 : w2.cell? ⟨w.heap.size, 1, none⟩ = some (.int .i64 y) := by rw [hb2.cell (p := ⟨w.heap.size, 1, none⟩) t1, hc1 _ _ (by simp)]; simp
        have n2 : w2.cell? ⟨w.heap.size, 2, none⟩ = some (.int .i64 z) := by rw [hb2.cell (p := ⟨w.heap.size, 2, none⟩) t1, hc1 _ _ (by simp)]; simp
        clear hc1 hf1 k0 k1 k2
        go_wp2_with fail
        refine wp_region_grow (by kernel_rfl) (by kernel_rfl) ?_
        repeat (go_big_quiet_step (first
          | (go_at_call 60; exact grow_same (c_l1ReadL _ _))
          | (go_at_call 41; exact grow_of (HC.out _))))
        refine wpQuiet_nil ?_
        intro _ hw'
        obtain ⟨u, hw''⟩ := hw'
        subst hw''
        have hb := wOf_below w2 u
        generalize wOf w2 u = w3 at hb ⊢
        go_wp2
        go_ret2
        exact ⟨rfl, ((((Below.refl _ _).alloc (Nat.le_refl _) _).trans (hb1.mono (by simp))).trans (hb2.mono (by omega))).trans (hb.mono (by omega))⟩
      · rw [hV, hB]
        clear hV hB
        go_enter Try.func35, Try.ntmps35
        go_wp2_with fail
        refine (c_l1Split _ _ hs).mono ?_
        rintro e w1 ⟨v1, rfl, hr1, hb1⟩
        rw [HS.out] at hr1
        obtain ⟨g, cp, hv, hg1, k0, k1, k2⟩ := hr1.three
        rw [hv]
        clear hr1 hv
        obtain ⟨hc1, hf1⟩ := bcell hb1
        have s1 := hb1.size
        simp at s1
        go_wp2_with fail
        refine (c_grGood _ _ _ _).mono ?_
        rintro e w2 ⟨rfl, hb2⟩
        have s2 := hb2.size
        have m0 : w2.cell? ⟨g, 0, none⟩ = some (.string ⟨p.toArray⟩) := (hb2.cell (p := ⟨g, 0, none⟩) hg1).trans k0
        have m1 : w2.cell? ⟨g, 1, none⟩ = some (.string ⟨q.toArray⟩) := (hb2.cell (p := ⟨g, 1, none⟩) hg1).trans k1
        have m2 : w2.cell? ⟨g, 2, none⟩ = some (.string ⟨r.toArray⟩) := (hb2.cell (p := ⟨g, 2, none⟩) hg1).trans k2
        have hg2 : g < w2.heap.size := by omega
        have t1 : w.heap.size < w1.heap.size := by omega
        have t2 : w.heap.size < w2.heap.size := by omega
        have n0 : w2.cell? ⟨w.heap.size, 0, none⟩ = some (.int .i64 x) := by rw [hb2.cell (p := ⟨w.heap.size, 0, none⟩) t1, hc1 _ _ (by simp)]; simp
        have n1 : w2.cell? ⟨w.heap.size, 1, none⟩ = some (.int .i64 y) := by rw [hb2.cell (p := ⟨w.heap.size, 1, none⟩) t1, hc1 _ _ (by simp)]; simp
        have n2 : w2.cell? ⟨w.heap.size, 2, none⟩ = some (.int .i64 z) := by rw [hb2.cell (p := ⟨w.heap.size, 2, none⟩) t1, hc1 _ _ (by simp)]; simp
        clear hc1 hf1 k0 k1 k2
        go_wp2_with fail
        refine wp_region_grow (by kernel_rfl) (by kernel_rfl) ?_
        repeat (go_big_quiet_step (first
          | (go_at_call 60; exact grow_same (c_l1ReadL _ _))
          | (go_at_call 41; exact grow_of (HC.out _))))
        refine wpQuiet_nil ?_
        intro _ hw'
        obtain ⟨u, hw''⟩ := hw'
        subst hw''
        have hb := wOf_below w2 u
        generalize wOf w2 u = w3 at hb ⊢
        go_wp2
        go_ret2
        exact ⟨rfl, ((((Below.refl _ _).alloc (Nat.le_refl _) _).trans (hb1.mono (by simp))).trans (hb2.mono (by omega))).trans (hb.mono (by omega))⟩
    · have hb : pbB x y z s = false := parts_short h3
      rw [pbV_no hb, hb]
      clear hb
      have h3' : (((sp [] s.data.toList).length : Int) != 3) = true := by simp; omega
      clear h3
      go_enter Try.func35, Try.ntmps35
      go_wp2_with fail
      refine (c_l1Split _ _ hs).mono ?_
      rintro e w1 ⟨v1, rfl, hr1, hb1⟩
      obtain ⟨A, c, hv⟩ := hr1.shape
      rw [hv]
      clear hr1 hv
      obtain ⟨hc1, hf1⟩ := bcell hb1
      have s1 := hb1.size
      simp at s1
      go_wp2_with fail
      refine (c_grGood _ _ _ _).mono ?_
      rintro e w2 ⟨rfl, hb2⟩
      go_wp2
      go_ret2
      exact ⟨rfl, (((Below.refl _ _).alloc (Nat.le_refl _) _).trans (hb1.mono (by simp))).trans (hb2.mono (by omega))⟩
end Go.Proofs.Ytpbkobkakedegaa
