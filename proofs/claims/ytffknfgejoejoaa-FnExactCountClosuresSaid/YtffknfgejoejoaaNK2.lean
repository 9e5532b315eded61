/-
  Rows of numbers of one kind, read and put; the program's count of what can be taken.
-/
import Derived.Test.YtffknfgejoejoaaNK1
import Derived.Test.YtffknfgejoejoaaNE
import Derived.Laws.MathBits
namespace Go.Proofs.Ytffknfgejoejoaa
open Go.RowKit
set_option linter.unusedVariables false

def nl (κ : IntKind) (f : Nat → Nat) (N : Nat) : List Value := (List.range N).map fun (i : Nat) => .int κ (f i)
theorem nl_len (κ : IntKind) (f : Nat → Nat) (N : Nat) : (nl κ f N).length = N := by simp [nl]
theorem nl_set {κ : IntKind} {f g : Nat → Nat} {N k : Nat} {b : Nat} (h : k < N) (e : ∀ j : Nat, j < N → g j = if j = k then b else f j) : (nl κ f N).set k (.int κ b) = nl κ g N := by
  apply List.ext_getElem
  · simp [nl]
  · intro i h1 h2
    simp only [nl, List.length_set, List.length_map, List.length_range] at h1
    simp only [nl, List.getElem_set, List.getElem_map, List.getElem_range]
    rw [e i h1]
    by_cases hk : k = i
    · subst hk; simp
    · rw [if_neg hk, if_neg (fun e => hk e.symm)]
/-- Block g is a row of N numbers. -/
def NumB (κ : IntKind) (ty : TypeId) (w : World) (g N : Nat) (f : Nat → Nat) : Prop := w.ownsRow g ty 1 (.slice (some ⟨g, 0, none⟩) N N) N (nl κ f N)
theorem NumB.cell {κ : IntKind} {ty : TypeId} {w : World} {g N : Nat} {f : Nat → Nat} (h : NumB κ ty w g N f) (k : Nat) (hk : k < N) : w.cell? ⟨g, k, none⟩ = some (.int κ (f k)) := by
  rw [World.ownsRow.cellAt h k (by omega)]
  simp [nl, hk]
theorem NumB.frozen {κ : IntKind} {ty : TypeId} {w : World} {g N : Nat} {f : Nat → Nat} (h : NumB κ ty w g N f) (k : Nat) : w.frozen? ⟨g, k, none⟩ = false := World.ownsRow.frozenAt h k
theorem NumB.lt {κ : IntKind} {ty : TypeId} {w : World} {g N : Nat} {f : Nat → Nat} (h : NumB κ ty w g N f) (h0 : 0 < N) : g < w.heap.size := by
  obtain ⟨g', c', e, _, hl⟩ := World.ownsRow.form h h0
  simp at e
  rw [e.1]; exact hl
theorem NumB.congr {κ : IntKind} {ty : TypeId} {w : World} {g N : Nat} {f q : Nat → Nat} (h : NumB κ ty w g N f) (e : ∀ k : Nat, k < N → f k = q k) : NumB κ ty w g N q := by
  have : nl κ f N = nl κ q N := by
    unfold nl
    exact List.map_congr_left fun i hi => by rw [e i (List.mem_range.1 hi)]
  unfold NumB
  rw [← this]; exact h
theorem NumB.below {κ : IntKind} {ty : TypeId} {w w' : World} {g N M : Nat} {f : Nat → Nat} (h : NumB κ ty w g N f) (hb : Below M w w') (hM : g < M) : NumB κ ty w' g N f :=
  own_stays h fun k hk => by simp [Value.ownBlock] at hk; subst hk; exact hb.block g hM
theorem NumB.put {κ : IntKind} {ty : TypeId} {w : World} {g N : Nat} {f q : Nat → Nat} (h : NumB κ ty w g N f) {k : Nat} {b : Nat} (hk : k < N) (e : ∀ j : Nat, j < N → q j = if j = k then b else f j) : NumB κ ty (w.setCell ⟨g, k, none⟩ (.int κ b)) g N q ∧ w.grownBy (w.setCell ⟨g, k, none⟩ (.int κ b)) (some g) := by
  have := World.ownsRow.stored h k (.int κ b)
  rw [nl_set hk e] at this
  exact this
theorem NumB.new (κ : IntKind) (ty : TypeId) (w : World) (N : Nat) (hn : N ≤ maxLen) : NumB κ ty (w.alloc (.cells (madeCells #[.int κ 0] N) ty)) w.heap.size N (fun _ => 0) := by
  have := World.ownsRow_lit (base := w.heap.size) (e := ty) (size := 1) w (madeCells #[.int κ 0] N) N (Nat.le_refl _) hn (by rw [size_madeCells]; simp)
  unfold NumB
  rw [show nl κ (fun _ => 0) N = (madeCells #[.int κ 0] N).toList by rw [toList_madeCells_one]; apply List.ext_getElem <;> simp [nl]]
  exact this
theorem lessB_le (a b : Nat) : lessB a b ≤ a := by
  have : lessB a b = a &&& lessB a b := Nat.eq_of_testBit_eq fun i => by
    rw [Nat.testBit_and, lessB_bit]
    cases a.testBit i <;> simp
  rw [this]
  exact Nat.and_le_left
theorem u64_shl1 (l : Nat) (h : l < 64) : IntKind.u64.wrap ((2 : Int) ^ l) = ((2 ^ l : Nat) : Int) := by
  rw [IntKind.wrap_u64]
  have h1 : 2 ^ l < 2 ^ 64 := Nat.pow_lt_pow_right (by omega) h
  have : ((2 : Int) ^ l) = ((2 ^ l : Nat) : Int) := by push_cast; rfl
  rw [this]
  generalize 2 ^ l = z at *
  exact Int.emod_eq_of_lt (by omega) (by omega)
theorem u64_less (a b : Nat) (ha : a < 18446744073709551616) (hb : b < 18446744073709551616) : bits .andNot .u64 (a : Int) (b : Int) = ((lessB a b : Nat) : Int) := by
  rw [u64_andNot_nat a b ha hb]
  congr 1
  refine Nat.eq_of_testBit_eq fun i => ?_
  rw [lessB_bit, Nat.testBit_and]
  by_cases hi : i < 64
  · rw [show 18446744073709551615 - b = 2 ^ 64 - (b + 1) by omega, Nat.testBit_two_pow_sub_succ (by omega)]
    simp [hi]
  · have : a.testBit i = false := Nat.testBit_lt_two_pow (Nat.lt_of_lt_of_le ha (by rw [show 18446744073709551616 = 2 ^ 64 by rfl]; exact Nat.pow_le_pow_right (by omega) (by omega)))
    rw [this]; rfl

set_option maxHeartbeats 4000000 in
set_option maxRecDepth 100000 in
theorem c_countWithin (C : Nat → Nat) (N g : Nat) (hN : N ≤ 20) (h1 : ∀ i, i < N → (C i).testBit i = true) (h2 : ∀ i, i < N → C i < 1048576) (CL : ∀ (n : Nat) (w : World), n < 1048576 → Calls Try.prog 86 #[.int .u64 n] w fun e w' => e = .returned (.int .i64 (bitLen n)) ∧ w = w') :
    ∀ (m left : Nat) (w : World), left < 2 ^ m → left < 2 ^ N → NumB .u64 59 w g N C →
    Calls Try.prog 77 #[.slice (some ⟨g, 0, none⟩) N N, .int .u64 left] w fun e w' => e = .returned (.int .i64 (cw C N left)) ∧ Below w.heap.size w w'
  | 0, left, w, hm, hl, h => by
    obtain rfl : left = 0 := by omega
    have E := Lib.hid (cw_zero C N)
    clear h h1 h2 hl
    generalize cw C N 0 = c at *
    go_enter Try.func77, Try.ntmps77
    go_wp2
    go_ret
    exact ⟨by rw [E.out]; rfl, Below.refl _ _⟩
  | m + 1, left, w, hm, hl, h => by
    by_cases h0 : left = 0
    · exact c_countWithin C N g hN h1 h2 CL 0 left w (by rw [h0]; exact Nat.two_pow_pos 0) hl h
    obtain ⟨hlN, E, q1, q2⟩ := cw_step h0 hl h1
    obtain ⟨l, hlg⟩ : ∃ l, left.log2 = l := ⟨_, rfl⟩
    rw [hlg] at hlN E q1 q2
    have hp20 : 2 ^ N ≤ 1048576 := Nat.pow_le_pow_right (n := 2) (by omega) hN
    have hlt : left < 1048576 := by omega
    have hCl := h2 l hlN
    have hblen : (bitLen left : Int) = (l : Int) + 1 := by unfold bitLen; rw [if_neg h0, hlg]; omega
    have C1 := Lib.hid (CL left w hlt)
    rw [hblen] at C1
    have hlm : 2 ^ l ≤ 2 ^ m := by
      refine Nat.pow_le_pow_right (by omega) ?_
      have := (Nat.log2_lt h0).2 hm
      omega
    have hlN2 : 2 ^ l ≤ 2 ^ N := Nat.pow_le_pow_right (by omega) (by omega)
    have C2 := Lib.hid (c_countWithin C N g hN h1 h2 CL m (lessB left (2 ^ l)) w (by omega) (by omega) h)
    have C3 := Lib.hid (fun u hu => c_countWithin C N g hN h1 h2 CL m (lessB left (C l)) u (by omega) (by omega) hu)
    have K1 := cw_le C N (lessB left (2 ^ l))
    have K2 := cw_le C N (lessB left (C l))
    have HN := Lib.hid h
    have q := h.cell l hlN
    have hg := h.lt (by omega)
    have e1 := u64_shl1 l (by omega)
    have e2 := u64_less left (2 ^ l) (by omega) (by omega)
    have e3 := u64_less left (C l) (by omega) (by omega)
    have e4 := u64_and_nat (C l) left (by omega) (by omega)
    have e6 : (C l &&& left = 2 ^ l) → cw C N (lessB left (C l)) = cw C N (lessB left (2 ^ l)) := fun h => by rw [cw_twice h]
    have E' := Lib.hid E
    have hl64 : l < 20 := by omega
    clear h E hlg hblen h1 h2 CL q1 q2 hlm hlN2
    generalize 2 ^ l = P at *
    generalize lessB left P = LP at *
    generalize lessB left (C l) = LC at *
    obtain ⟨Cl, hCl'⟩ : ∃ x, C l = x := ⟨_, rfl⟩
    have HCl := Lib.hid hCl'
    rw [hCl'] at hCl e3 e4 e6 q
    clear hCl'
    generalize cw C N LP = cP at *
    generalize cw C N LC = cC at *
    generalize Cl &&& left = AN at *
    go_enter Try.func77, Try.ntmps77
    go_wp2_with fail
    refine C1.out.mono ?_
    rintro e w' ⟨rfl, rfl⟩
    go_wp2_with fail
    refine C2.out.mono ?_
    rintro e w2 ⟨rfl, hb2⟩
    have HB2 := Lib.hid hb2
    have HN2 := Lib.hid (HN.out.below hb2 hg)
    have q2 := HN2.out.cell l hlN
    rw [HCl.out] at q2
    clear hb2
    have b1 : (0 : Int) ≤ (l : Int) := by omega
    have b2 : (l : Int) < (N : Int) := by omega
    have iw2 : IntKind.i64.wrap (2 * (cP : Int)) = 2 * (cP : Int) := IntWalk.i64_in _ (by omega)
    have iw3 : IntKind.i64.wrap ((cP : Int) + cC) = (cP : Int) + cC := IntWalk.i64_in _ (by omega)
    go_upto_region 5 with fail
    have HB3 : Hid (Below w.heap.size w w2.drew) := HB2.out.drew
    have HN3 : Hid (NumB .u64 59 w2.drew g N C) := own_stays HN2.out fun _ _ => rfl
    go_region
    generalize w2.drew = w3 at *
    by_cases hAP : AN = P
    · have hq : ((AN : Int) == (P : Int)) = true := by simp [hAP]
      have E6 := Lib.hid (e6 hAP)
      rw [hq]
      clear hq hAP e6
      go_wp2
      go_ret
      exact ⟨by rw [E'.out, E6.out, show ((cP + cP : Nat) : Int) = 2 * (cP : Int) by omega]; rfl, HB3.out⟩
    · have hq : ((AN : Int) == (P : Int)) = false := beq_eq_false_iff_ne.2 (by omega)
      rw [hq]
      clear hq hAP e6
      have q3 := HN3.out.cell l hlN
      rw [HCl.out] at q3
      go_wp2_with fail
      refine (C3.out _ HN3.out).mono ?_
      rintro e w4 ⟨rfl, hb4⟩
      have HB4 : Hid (Below w.heap.size w w4) := HB3.out.trans (hb4.mono HB3.out.size)
      clear hb4
      go_wp2
      go_ret
      exact ⟨by rw [E'.out]; push_cast; rfl, HB4.out⟩

end Go.Proofs.Ytffknfgejoejoaa
