/-
  Contract: all edges of the network of arcs and values, in the program.
-/
import Derived.Test.YthfmgclndokknaaPD0
namespace Go.Proofs.Ythfmgclndokknaa
open Go.RowKit
set_option linter.unusedVariables false

theorem edg_rows {w : World} {B n k : Nat} {v : Value} {P Q : List Int} (h : w.ownsRow B 49 3 v (n + k) (ints P ++ ints Q)) : RowP w B v (n + k) (P ++ Q) := by
  unfold RowP
  rw [show ints (P ++ Q) = ints P ++ ints Q by simp [ints]]
  exact h

set_option maxHeartbeats 8000000 in
set_option maxRecDepth 100000 in
theorem c_edges (xss : List (List Int)) (vs : List Int) (A A2 : Option Addr) (c c2 : Nat) (w : World) (hp : PitOk xss vs) (h : SeenL w (.slice A xss.length c) xss) (hu : Seen w (.slice A2 xss.length c2) vs) :
    Calls Try.prog 30 #[.agg #[.slice A xss.length c, .slice A2 xss.length c2]] w (GivesP w (pN xss vs xss.length) (pE xss vs xss.length)) := by
  obtain ⟨i0, hi0, hz0, hz1, hz2⟩ := info_parts edge_info
  have HI := Lib.hid hi0
  have hN := arc_len hp.arcs
  have CV : Hid (∀ (k : Nat) (u : World), k < xss.length → Below w.heap.size w u → Calls Try.prog 54 #[.agg #[.slice A xss.length c, .slice A2 xss.length c2], .int .i64 k] u (GivesP u (vN (vs.getD k 0)) (vE xss.length k (vs.getD k 0)))) := fun k u hk hb =>
    c_valueEdges xss.length k c c2 A vs A2 u (by omega) hk hp.len (hp.wide k hk) (hu.below hb)
  have CA : Hid (∀ (k : Nat) (u : World), k < xss.length → Below w.heap.size w u → Calls Try.prog 55 #[.agg #[.slice A xss.length c, .slice A2 xss.length c2], .int .i64 k] u (GivesP u (xss.getD k []).length (aE k (xss.getD k []) (xss.getD k []).length))) := fun k u hk hb =>
    c_arcEdges xss.length k c c2 xss.length xss A A2 u (by omega) hk rfl (arcB_at hp.arcs hk) (h.below hb)
  have HM : Hid (∀ k, k ≤ xss.length → pN xss vs k ≤ 7260) := fun k hk => pN_max hp.arcs vs hk
  have PE0 : Hid (pE xss vs 0 = [] ∧ pN xss vs 0 = 0) := ⟨rfl, rfl⟩
  have PES : Hid (∀ k, pE xss vs (k + 1) = (pE xss vs k ++ vE xss.length k (vs.getD k 0)) ++ aE k (xss.getD k []) (xss.getD k []).length ∧ pN xss vs (k + 1) = (pN xss vs k + vN (vs.getD k 0)) + (xss.getD k []).length) := fun k => ⟨rfl, rfl⟩
  have HVN : Hid (∀ k, vN (vs.getD k 0) ≤ 1) := fun k => vN_le _
  have HB0 : Hid (Below w.heap.size w (w.alloc (.cells #[.slice A xss.length c, .slice A2 xss.length c2] 44))) := (Below.refl _ _).alloc (Nat.le_refl _) _
  clear hi0 h hu hp
  generalize pE xss vs = E at *
  generalize pN xss vs = C at *
  generalize xss.length = n at *
  go_enter Try.func30, Try.ntmps30
  go_wp2_with fail
  have HBw : Hid (Below w.heap.size w ((w.alloc (.cells #[.slice A n c, .slice A2 n c2] 44)).alloc (.cells #[.func (.func 54) #[.agg #[.slice A n c, .slice A2 n c2]] #[], .func (.func 55) #[.agg #[.slice A n c, .slice A2 n c2]] #[]] 60))) := HB0.out.alloc HB0.out.size _
  have HK0 : Hid (((w.alloc (.cells #[.slice A n c, .slice A2 n c2] 44)).alloc (.cells #[.func (.func 54) #[.agg #[.slice A n c, .slice A2 n c2]] #[], .func (.func 55) #[.agg #[.slice A n c, .slice A2 n c2]] #[]] 60)).cell? ⟨w.heap.size + 1, 0, none⟩ = some (.func (.func 54) #[.agg #[.slice A n c, .slice A2 n c2]] #[])) := by simp [Hid]
  have HK1 : Hid (((w.alloc (.cells #[.slice A n c, .slice A2 n c2] 44)).alloc (.cells #[.func (.func 54) #[.agg #[.slice A n c, .slice A2 n c2]] #[], .func (.func 55) #[.agg #[.slice A n c, .slice A2 n c2]] #[]] 60)).cell? ⟨w.heap.size + 1, 0 + 1, none⟩ = some (.func (.func 55) #[.agg #[.slice A n c, .slice A2 n c2]] #[])) := by simp [Hid]
  have HZw : Hid (w.heap.size + 1 < ((w.alloc (.cells #[.slice A n c, .slice A2 n c2] 44)).alloc (.cells #[.func (.func 54) #[.agg #[.slice A n c, .slice A2 n c2]] #[], .func (.func 55) #[.agg #[.slice A n c, .slice A2 n c2]] #[]] 60)).heap.size) := by simp [Hid]
  generalize ((w.alloc (.cells #[.slice A n c, .slice A2 n c2] 44)).alloc (.cells #[.func (.func 54) #[.agg #[.slice A n c, .slice A2 n c2]] #[], .func (.func 55) #[.agg #[.slice A n c, .slice A2 n c2]] #[]] 60)) = w2 at *
  go_loopw [3, 16] (fun q i wr => ∃ k : Nat, k ≤ n ∧ i = .int .i64 k ∧ RowP wr w2.heap.size q (C k) (E k) ∧ Below w2.heap.size w2 wr) (fun _ i _ => n - (RowKit.intOf i).toNat)
  case atStart => exact ⟨0, Nat.zero_le _, rfl, by rw [PE0.out.1, PE0.out.2]; exact RowP.nil _ _, Below.refl _ _⟩
  case round =>
    obtain ⟨k, hk, rfl, hr, hb⟩ := hrel
    have HR := Lib.hid hr
    have HB := Lib.hid hb
    clear hr hb
    by_cases hlt : k < n
    · obtain ⟨HE1', HC1'⟩ := PES.out k
      have hcm := HM.out k (by omega)
      have hcm1 := HM.out (k + 1) (by omega)
      have hvn := HVN.out k
      rw [HC1'] at hcm1
      have b1 : (0 : Int) ≤ (k : Int) := by omega
      have b2 : (k : Int) < (n : Int) := by omega
      obtain ⟨Ej, hEj⟩ : ∃ Ej : Nat → List Int, Ej = fun j => if j = 0 then E k else if j = 1 then E k ++ vE n k (vs.getD k 0) else E (k + 1) := ⟨_, rfl⟩
      obtain ⟨Cj, hCj⟩ : ∃ Cj : Nat → Nat, Cj = fun j => if j = 0 then C k else if j = 1 then C k + vN (vs.getD k 0) else C (k + 1) := ⟨_, rfl⟩
      have E0 : Hid (Ej 0 = E k ∧ Cj 0 = C k) := by rw [hEj, hCj]; exact ⟨rfl, rfl⟩
      have E2 : Hid (Ej 2 = E (k + 1) ∧ Cj 2 = C (k + 1)) := by rw [hEj, hCj]; exact ⟨rfl, rfl⟩
      have HE0 : Hid (Ej (0 + 1) = Ej 0 ++ vE n k (vs.getD k 0)) := by rw [hEj]; rfl
      have HC0 : Hid (Cj (0 + 1) = Cj 0 + vN (vs.getD k 0)) := by rw [hCj]; rfl
      have HE1 : Hid (Ej (1 + 1) = Ej 1 ++ aE k (xss.getD k []) (xss.getD k []).length) := by rw [hEj]; exact HE1'
      have HC1 : Hid (Cj (1 + 1) = Cj 1 + (xss.getD k []).length) := by rw [hCj]; exact HC1'
      have hc0 : Cj 0 ≤ 7260 := by rw [hCj]; exact hcm
      have hc1 : Cj 1 + (xss.getD k []).length ≤ 7260 := by rw [hCj]; exact hcm1
      have CVk := Lib.hid (fun u hb => CV.out k u hlt hb)
      have CAk := Lib.hid (fun u hb => CA.out k u hlt hb)
      clear hEj hCj HE1' HC1' hcm hcm1
      generalize vs.getD k 0 = x at *
      generalize xss.getD k [] = ys at *
      go_wp2_with fail
      go_loopw [3, 21] (fun q i wr => ∃ j : Nat, j ≤ 2 ∧ i = .int .i64 j ∧ RowP wr w2.heap.size q (Cj j) (Ej j) ∧ Below w2.heap.size w2 wr) (fun _ i _ => 2 - (RowKit.intOf i).toNat)
      case atStart => exact ⟨0, Nat.zero_le _, rfl, by rw [E0.out.1, E0.out.2]; exact HR.out, HB.out⟩
      case round =>
        obtain ⟨j, hj, rfl, hr, hb⟩ := hrel
        have HRt := Lib.hid hr
        have HBt := Lib.hid hb
        clear hr hb
        have k0 : wr.cell? ⟨w.heap.size + 1, 0, none⟩ = _ := (HBt.out.cell (p := ⟨w.heap.size + 1, 0, none⟩) HZw.out).trans HK0.out
        have k1 : wr.cell? ⟨w.heap.size + 1, 0 + 1, none⟩ = _ := (HBt.out.cell (p := ⟨w.heap.size + 1, 0 + 1, none⟩) HZw.out).trans HK1.out
        simp only [Nat.zero_add] at k1
        by_cases j0 : j = 0
        · subst j0
          have b4 : (0 : Int) ≤ ((0 : Nat) : Int) := by omega
          go_wp2_with fail
          refine (CVk.out wr (HBw.out.trans (HBt.out.mono HBw.out.size))).mono ?_
          rintro e w4 ⟨v4, rfl, hr4, hb4⟩
          have HB4 : Hid (Below w2.heap.size w2 w4) := HBt.out.trans (hb4.mono HBt.out.size)
          have HR4 : Hid (RowP w4 w2.heap.size u3 (Cj 0) (Ej 0)) := HRt.out.below hb4
          obtain ⟨A4, c4, rfl⟩ := hr4.shape
          have HSrc := Lib.hid (srcE hr4)
          have sw4 := HB4.out.size
          clear hr4 hb4
          go_wp2_with (at_builtin; refine wpList_append_src rfl _ _ 25 rfl (base := w2.heap.size) Try.underlying25 HI.out hz0 hz1 hz2 rfl (by decide) rfl HR4.out rfl HSrc.out ints_ones ?c3 ?c4 ?c5 ?_)
          case c3 => unfold maxLen; omega
          case c4 => omega
          case c5 => first | omega | simp
          intro v5 w5 hown' hgrow _
          have R1 : Hid (RowP w5 w2.heap.size v5 (Cj (0 + 1)) (Ej (0 + 1))) := by rw [HE0.out, HC0.out]; exact edg_rows hown'
          have R2 : Hid (Below w2.heap.size w2 w5) := HB4.out.grown hgrow HB4.out.size (fun g hg => (World.ownsRow.lt HR4.out g hg).1)
          clear hown' hgrow
          go_wp2
          go_roundw
          case rel => exact ⟨0 + 1, by omega, by go_num, R1.out, R2.out⟩
          case measure => simp [RowKit.intOf]
        · by_cases j1 : j = 1
          · subst j1
            have b4 : (0 : Int) ≤ ((1 : Nat) : Int) := by omega
            go_wp2_with fail
            refine (CAk.out wr (HBw.out.trans (HBt.out.mono HBw.out.size))).mono ?_
            rintro e w4 ⟨v4, rfl, hr4, hb4⟩
            have HB4 : Hid (Below w2.heap.size w2 w4) := HBt.out.trans (hb4.mono HBt.out.size)
            have HR4 : Hid (RowP w4 w2.heap.size u3 (Cj 1) (Ej 1)) := HRt.out.below hb4
            obtain ⟨A4, c4, rfl⟩ := hr4.shape
            have HSrc := Lib.hid (srcE hr4)
            have sw4 := HB4.out.size
            clear hr4 hb4
            go_wp2_with (at_builtin; refine wpList_append_src rfl _ _ 25 rfl (base := w2.heap.size) Try.underlying25 HI.out hz0 hz1 hz2 rfl (by decide) rfl HR4.out rfl HSrc.out ints_ones ?c3 ?c4 ?c5 ?_)
            case c3 => unfold maxLen; omega
            case c4 => omega
            case c5 => first | omega | simp
            intro v5 w5 hown' hgrow _
            have R1 : Hid (RowP w5 w2.heap.size v5 (Cj (1 + 1)) (Ej (1 + 1))) := by rw [HE1.out, HC1.out]; exact edg_rows hown'
            have R2 : Hid (Below w2.heap.size w2 w5) := HB4.out.grown hgrow HB4.out.size (fun g hg => (World.ownsRow.lt HR4.out g hg).1)
            clear hown' hgrow
            go_wp2
            go_roundw
            case rel => exact ⟨1 + 1, by omega, by go_num, R1.out, R2.out⟩
            case measure => simp [RowKit.intOf]
          · obtain rfl : j = 2 := by omega
            have G : Hid (RowP wr w2.heap.size u3 (C (k + 1)) (E (k + 1))) := by rw [← E2.out.1, ← E2.out.2]; exact HRt.out
            go_wp2
            go_roundw
            case rel => exact ⟨k + 1, by omega, by go_num, G.out, HBt.out⟩
            case measure => simp [RowKit.intOf]; omega
    · obtain rfl : k = n := by omega
      have G := Lib.hid (HR.out.mono HBw.out.size)
      have GB : Hid (Below w.heap.size w wr) := HBw.out.trans (HB.out.mono HBw.out.size)
      go_wp2
      go_ret
      exact ⟨_, rfl, G.out, GB.out⟩
end Go.Proofs.Ythfmgclndokknaa
