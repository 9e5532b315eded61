/-
  Contracts of the law's own helpers over lists of lists: two compared.
-/
import Derived.Test.YtlgbhemjckahhaaR1
namespace Go.Proofs.Ytlgbhemjckahhaa
open Go.RowKit
set_option linter.unusedVariables false

set_option maxHeartbeats 4000000 in
theorem c_eqIntSS (xss : List (List Int)) (v1 v2 : Value) (B1 U1 B2 U2 : Nat) (w : World) (hl : xss.length ≤ 1048576) (hs : Short xss) (h1 : Rows w B1 U1 v1 xss) (h2 : Rows w B2 U2 v2 xss) (u1 : U1 ≤ w.heap.size) (u2 : U2 ≤ w.heap.size) :
    Calls Try.prog 16 #[v1, v2] w fun e w' => e = .returned (.bool true) ∧ Below w.heap.size w w' := by
  by_cases h0 : xss.length = 0
  · obtain ⟨A1, c1, rfl⟩ := h1.shape
    obtain ⟨A2, c2, rfl⟩ := h2.shape
    rw [h0]
    clear h1 h2 h0 hl
    go_enter Try.func16, Try.ntmps16
    go_wp2
    go_rounds 1
    go_ret
    exact ⟨rfl, Below.refl _ _⟩
  · have H1 := Lib.hid h1
    have H2 := Lib.hid h2
    obtain ⟨vs1, k1⟩ := h1
    obtain ⟨vs2, k2⟩ := h2
    obtain ⟨g1, c1, rfl, _, lt1⟩ := k1.form (by omega)
    obtain ⟨g2, c2, rfl, _, lt2⟩ := k2.form (by omega)
    have E1 : Hid (∀ i, i < xss.length → ∃ A c, vs1.getD i (.slice none 0 0) = .slice A (xss.getD i []).length c ∧ w.cell? ⟨g1, i, none⟩ = some (.slice A (xss.getD i []).length c)) := fun i hi => by
      obtain ⟨A, c, e⟩ := (k1.row i hi).shape
      exact ⟨A, c, e, by rw [k1.cell hi, e]⟩
    have E2 : Hid (∀ i, i < xss.length → ∃ A c, vs2.getD i (.slice none 0 0) = .slice A (xss.getD i []).length c ∧ w.cell? ⟨g2, i, none⟩ = some (.slice A (xss.getD i []).length c)) := fun i hi => by
      obtain ⟨A, c, e⟩ := (k2.row i hi).shape
      exact ⟨A, c, e, by rw [k2.cell hi, e]⟩
    have R1 : Hid (∀ i, i < xss.length → Row w B1 (vs1.getD i (.slice none 0 0)) (xss.getD i [])) := k1.row
    have R2 : Hid (∀ i, i < xss.length → Row w B2 (vs2.getD i (.slice none 0 0)) (xss.getD i [])) := k2.row
    have HSh := Lib.hid hs
    have hne : ((xss.length : Int) != (xss.length : Int)) = false := by simp
    clear k1 k2 h0 hs
    go_enter Try.func16, Try.ntmps16
    go_wp2_with fail
    go_loopw [5] (fun i wr => ∃ k : Nat, k ≤ xss.length ∧ i = .int .i64 k ∧ Below w.heap.size w wr) (fun i _ => xss.length - (intOf i).toNat)
    case atStart => exact ⟨0, Nat.zero_le _, rfl, Below.refl _ _⟩
    case round =>
      obtain ⟨k, hk, rfl, hbw⟩ := hrel
      have HB := Lib.hid hbw
      clear hbw
      by_cases hlt : k < xss.length
      · have gg1 : g1 < wr.heap.size := Nat.lt_of_lt_of_le lt1 HB.out.size
        have gg2 : g2 < wr.heap.size := Nat.lt_of_lt_of_le lt2 HB.out.size
        obtain ⟨A1, d1, e1, p1⟩ := E1.out k hlt
        obtain ⟨A2, d2, e2, p2⟩ := E2.out k hlt
        have r1 := R1.out k hlt
        have r2 := R2.out k hlt
        rw [e1] at r1
        rw [e2] at r2
        have q1 : wr.cell? ⟨g1, k, none⟩ = some (.slice A1 (xss.getD k []).length d1) := by rw [HB.out.cell (p := ⟨g1, k, none⟩) lt1]; exact p1
        have q2 : wr.cell? ⟨g2, k, none⟩ = some (.slice A2 (xss.getD k []).length d2) := by rw [HB.out.cell (p := ⟨g2, k, none⟩) lt2]; exact p2
        have HC : Hid (∀ u, Below wr.heap.size wr u → Calls Try.prog 27 #[.slice A1 (xss.getD k []).length d1, .slice A2 (xss.getD k []).length d2] u fun e w' => e = .returned (.bool true) ∧ Below u.heap.size u w') := fun u hu =>
          c_eqIntS (xss.getD k []) _ _ B1 B2 u (by have := HSh.out k hlt; omega) ((r1.below HB.out).below hu) ((r2.below HB.out).below hu)
        clear p1 p2 e1 e2 r1 r2
        generalize (xss.getD k []).length = m at *
        have b1 : (0 : Int) ≤ (k : Int) := by omega
        have b2 : (k : Int) < (xss.length : Int) := by omega
        go_wp2_with fail
        refine wp_region_grow (by kernel_rfl) (by kernel_rfl) ?_
        repeat (go_big_quiet_step ((go_at_call 27; exact grow_of (HC.out _ (wOf_below _ _)))))
        refine wpQuiet_nil ?_
        intro _ hw'
        obtain ⟨u, hw''⟩ := hw'
        subst hw''
        have hb2 := wOf_below wr u
        generalize wOf wr u = w2 at hb2 ⊢
        have HB2 : Hid (Below w.heap.size w w2) := HB.out.trans (hb2.mono HB.out.size)
        clear hb2
        go_wp2
        go_roundw
        case rel => exact ⟨k + 1, by omega, by go_num, HB2.out⟩
        case measure => simp [intOf]; omega
      · obtain rfl : k = xss.length := by omega
        go_wp2
        go_ret
        exact ⟨rfl, HB.out⟩

end Go.Proofs.Ytlgbhemjckahhaa
