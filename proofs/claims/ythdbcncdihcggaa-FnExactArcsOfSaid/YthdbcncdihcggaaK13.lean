/-
  Contracts: the program's ArcCount and TopBlocks.
-/
import Derived.Test.YthdbcncdihcggaaK12
namespace Go.Proofs.Ythdbcncdihcggaa
open Go.RowKit
set_option linter.unusedVariables false

/-- The cells of a list of lists. -/
theorem Rows.cells {w : World} {B U : Nat} {v : Value} {xss : List (List Int)} (h : Rows w B U v xss) : ∃ A c, v = .slice A xss.length c ∧ ∀ k : Nat, k < xss.length → ∃ g A' c', A = some ⟨g, 0, none⟩ ∧ g < w.heap.size ∧ w.cell? ⟨g, k, none⟩ = some (.slice A' (xss.getD k []).length c') := by
  obtain ⟨A, c, rfl⟩ := h.shape
  obtain ⟨vs, h⟩ := h
  refine ⟨A, c, rfl, fun k hk => ?_⟩
  obtain ⟨g, c', e, _, hl⟩ := h.form (by omega)
  simp at e
  obtain ⟨rfl, rfl⟩ := e
  obtain ⟨A', c', e'⟩ := (h.row k hk).shape
  exact ⟨g, A', c', rfl, hl, by rw [h.cell hk, e']⟩

set_option maxHeartbeats 400000 in
theorem c_fnLen (A : Option Addr) (n c : Nat) (w : World) : Calls Try.prog 67 #[.slice A n c] w fun e w' => e = .returned (.int .i64 n) ∧ w = w' := by
  go_enter Try.func67, Try.ntmps67
  go_wp2
  go_ret
  exact ⟨rfl, rfl⟩
set_option maxHeartbeats 400000 in
theorem c_fnNone (A : Option Addr) (n c : Nat) (w : World) : Calls Try.prog 69 #[.slice A n c] w fun e w' => e = .returned (.bool (decide (n = 0))) ∧ w = w' := by
  go_enter Try.func69, Try.ntmps69
  go_wp2
  go_ret
  exact ⟨ret_bool (by rw [Bool.eq_iff_iff]; simp), rfl⟩

set_option maxHeartbeats 1000000 in
theorem c_sumLens (xss : List (List Int)) (v : Value) (B U : Nat) (w : World) (hl : xss.length ≤ 1000000) (ht : totN xss xss.length ≤ 1048576) (h : Rows w B U v xss) :
    Calls Try.prog 66 #[v, .func (.func 67) #[] #[]] w fun e w' => e = .returned (.int .i64 (totN xss xss.length : Nat)) ∧ w = w' := by
  obtain ⟨A, c, rfl, hc⟩ := h.cells
  have HC := Lib.hid hc
  have HT : Hid (∀ i, totN xss i + (xss.getD i []).length = totN xss (i + 1)) := fun i => rfl
  have HZ : Hid (totN xss 0 = 0) := rfl
  have HM : Hid (∀ i, i ≤ xss.length → totN xss i ≤ 1048576) := fun i hi => Nat.le_trans (tot_mono xss hi) ht
  clear hc ht h
  generalize totN xss = T at *
  go_enter Try.func66, Try.ntmps66
  go_wp2_with fail
  go_loop [5, 10] (fun q i => ∃ k : Nat, k ≤ xss.length ∧ i = .int .i64 k ∧ q = .int .i64 (T k : Nat)) (fun _ i => xss.length - (intOf i).toNat)
  case atStart => exact ⟨0, Nat.zero_le _, rfl, by rw [HZ.out]; rfl⟩
  case round =>
    obtain ⟨k, hk, rfl, rfl⟩ := hrel
    by_cases hlt : k < xss.length
    · obtain ⟨g, A', c', rfl, hg, q0⟩ := HC.out k hlt
      have ht := HT.out k
      have h1 := HM.out k hk
      have h2 := HM.out (k + 1) hlt
      generalize (xss.getD k []).length = m at *
      have b1 : (0 : Int) ≤ (k : Int) := by omega
      have b2 : (k : Int) < (xss.length : Int) := by omega
      have HTk := Lib.hid ht
      have iw : IntKind.i64.wrap ((T k : Int) + (m : Int)) = (T k : Int) + (m : Int) := IntWalk.i64_in _ (by omega)
      clear ht h1 h2
      go_wp2_with fail
      refine (c_fnLen _ _ _ _).mono ?_
      rintro e w1 ⟨rfl, rfl⟩
      go_wp2
      go_round
      case rel => exact ⟨k + 1, by omega, by go_num, by rw [← HTk.out]; congr 1⟩
      case measure => simp [intOf]; omega
    · obtain rfl : k = xss.length := by omega
      go_wp2
      go_ret
      exact ⟨rfl, rfl⟩

set_option maxHeartbeats 1000000 in
theorem c_whereNone (xss : List (List Int)) (v : Value) (B U : Nat) (w : World) (hl : xss.length ≤ 1000000) (h : Rows w B U v xss) :
    Calls Try.prog 68 #[v, .func (.func 69) #[] #[]] w (GivesRow w (sel (topP xss) xss.length)) := by
  obtain ⟨i0, hi0, hz0, hz1, hz2⟩ := info_parts int_info
  have HI := Lib.hid hi0
  clear hi0
  obtain ⟨A, c, rfl, hc⟩ := h.cells
  have E1 := Lib.hid hc
  have HP : Hid (∀ k : Nat, topP xss k = decide ((xss.getD k []).length = 0)) := fun k => rfl
  clear h hc
  generalize topP xss = p at *
  generalize hn : xss.length = n at *
  clear hn
  go_enter Try.func68, Try.ntmps68
  go_wp2_with fail
  go_loopw [5, 10] (fun v i wr => ∃ k : Nat, k ≤ n ∧ i = .int .i64 k ∧ Row wr w.heap.size v (sel p k) ∧ Below w.heap.size w wr) (fun _ i _ => n - (intOf i).toNat)
  case atStart => exact ⟨0, Nat.zero_le _, rfl, Row.nil _ _, Below.refl _ _⟩
  case round =>
    obtain ⟨k, hk, rfl, hr, hbw⟩ := hrel
    have HR := Lib.hid hr
    have HB := Lib.hid hbw
    clear hr hbw
    by_cases hlt : k < n
    · obtain ⟨g, A', c', rfl, hbl, hcc⟩ := E1.out k hlt
      have q1 : wr.cell? ⟨g, k, none⟩ = some (.slice A' (xss.getD k []).length c') := by rw [HB.out.cell (p := ⟨g, k, none⟩) hbl]; exact hcc
      have hp : Hid (p k = decide ((xss.getD k []).length = 0)) := HP.out k
      clear hcc hbl
      generalize (xss.getD k []).length = t at *
      have b1 : (0 : Int) ≤ (k : Int) := by omega
      have b2 : (k : Int) < (n : Int) := by omega
      have hlen := sel_len p k
      have sw := HB.out.size
      go_wp2_with fail
      refine (c_fnNone _ _ _ _).mono ?_
      rintro e w2 ⟨rfl, rfl⟩
      cases ht : decide (t = 0)
      · have HQ : Hid (p k = false) := hp.out.trans ht
        clear ht
        go_wp2
        go_roundw
        case rel => exact ⟨k + 1, by omega, by go_num, by rw [sel_miss HQ.out]; exact HR.out, HB.out⟩
        case measure => simp [intOf]; omega
      · have HQ : Hid (p k = true) := hp.out.trans ht
        clear ht
        go_wp2_with (at_builtin; refine wpList_append_own _ rfl _ _ 31 rfl (w.heap.size) 3 i0 (.int .i64 0) 1 8 Try.underlying31 HI.out hz0 hz1 hz2 rfl (by decide) _ _ _ rfl (World.ownsRow.alloc HR.out _) ⟨wr.heap.size, 0, none⟩ 1 1 [.int .i64 k] rfl rfl ?c1 ?c2 ?c3 ?c4 ?c5 ?_)
        case c1 =>
          intro j u hj
          match j, hj with
          | 0, hj => simp at hj; subst hj; simp [Addr.add]
        case c2 => intro u hu; simp at hu; subst hu; rfl
        case c3 => unfold maxLen; omega
        case c4 => omega
        case c5 => simp; omega
        intro v' w4 hown' hgrow _
        have R1 : Hid (Row w4 w.heap.size v' (sel p (k + 1))) := by rw [sel_hit HQ.out]; exact row_more hown'
        have R2 : Hid (Below w.heap.size w w4) := (HB.out.alloc sw _).grown hgrow (by simp; omega) (fun g hg => (World.ownsRow.lt HR.out g hg).1)
        clear hown' hgrow
        go_wp2
        go_roundw
        case rel => exact ⟨k + 1, by omega, by go_num, R1.out, R2.out⟩
        case measure => simp [intOf]; omega
    · obtain rfl : k = n := by omega
      go_wp2
      go_ret
      exact ⟨_, rfl, HR.out, HB.out⟩

set_option maxHeartbeats 1000000 in
theorem c_ArcCount (x y z : Int) (v1 v2 : Value) (ss : List Int) (tss : List (List Int)) (w : World) (l1 : ss.length ≤ 4000000) (l2 : ShortT tss) (h : LookS w v1 v2 ss tss) :
    Calls Try.prog 34 #[.agg #[.int .i64 x, .int .i64 y, .int .i64 z], .agg #[v1, v2]] w fun e w' => e = .returned (.tuple #[.int .i64 (arcC x y z ss tss), .bool (sloV x y z ss tss)]) ∧ Below w.heap.size w w' := by
  have CA := Lib.hid (fun (u : World) (hu : Below w.heap.size w u) => c_ArcsOf x y z v1 v2 ss tss u l1 l2 (h.below hu))
  obtain ⟨f1, f2, f3⟩ := arc_facts x y z ss tss
  have CL : Hid (∀ (v : Value) (B U : Nat) (u : World), Rows u B U v (arcL x y z ss tss) → Calls Try.prog 66 #[v, .func (.func 67) #[] #[]] u fun e w' => e = .returned (.int .i64 (arcC x y z ss tss)) ∧ u = w') := fun v B U u hr => c_sumLens _ v B U u f1 f3 hr
  obtain ⟨A1, c1, rfl, m1, _⟩ := h.s
  obtain ⟨A2, c2, rfl, m2⟩ := h.t.shape
  clear h m1 m2 l2 f1 f2 f3
  generalize arcL x y z ss tss = AL at *
  generalize arcC x y z ss tss = AC at *
  generalize sloV x y z ss tss = SV at *
  have HB0 : Hid (Below w.heap.size w ((w.alloc (.cells #[.int .i64 x, .int .i64 y, .int .i64 z] 38)).alloc (.cells #[.slice A1 ss.length c1, .slice A2 tss.length c2] 42))) := ((Below.refl _ _).alloc (Nat.le_refl _) _).alloc (by simp) _
  go_enter Try.func34, Try.ntmps34
  go_wp2_with fail
  generalize ((w.alloc (.cells #[.int .i64 x, .int .i64 y, .int .i64 z] 38)).alloc (.cells #[.slice A1 ss.length c1, .slice A2 tss.length c2] 42)) = W at *
  refine (CA.out _ HB0.out).mono ?_
  rintro e w1 ⟨v, rfl, hr, hb1⟩
  have HR := Lib.hid hr
  have HB1 : Hid (Below w.heap.size w w1) := HB0.out.trans (hb1.mono HB0.out.size)
  clear hb1 hr
  go_wp2_with fail
  refine (CL.out _ _ _ _ HR.out).mono ?_
  rintro e w2 ⟨rfl, rfl⟩
  go_wp2
  go_ret2
  exact ⟨rfl, HB1.out⟩

set_option maxHeartbeats 1000000 in
theorem c_TopBlocks (x y z : Int) (v1 v2 : Value) (ss : List Int) (tss : List (List Int)) (w : World) (l1 : ss.length ≤ 4000000) (l2 : ShortT tss) (h : LookS w v1 v2 ss tss) :
    Calls Try.prog 36 #[.agg #[.int .i64 x, .int .i64 y, .int .i64 z], .agg #[v1, v2]] w (GivesRow2 w (topL x y z ss tss) (sloV x y z ss tss)) := by
  have CA := Lib.hid (fun (u : World) (hu : Below w.heap.size w u) => c_ArcsOf x y z v1 v2 ss tss u l1 l2 (h.below hu))
  obtain ⟨f1, f2, f3⟩ := arc_facts x y z ss tss
  have CL : Hid (∀ (v : Value) (B U : Nat) (u : World), Rows u B U v (arcL x y z ss tss) → Calls Try.prog 68 #[v, .func (.func 69) #[] #[]] u (GivesRow u (topL x y z ss tss))) := fun v B U u hr => c_whereNone _ v B U u f1 hr
  obtain ⟨A1, c1, rfl, m1, _⟩ := h.s
  obtain ⟨A2, c2, rfl, m2⟩ := h.t.shape
  clear h m1 m2 l2 f1 f2 f3
  generalize arcL x y z ss tss = AL at *
  generalize topL x y z ss tss = TL at *
  generalize sloV x y z ss tss = SV at *
  have HB0 : Hid (Below w.heap.size w ((w.alloc (.cells #[.int .i64 x, .int .i64 y, .int .i64 z] 38)).alloc (.cells #[.slice A1 ss.length c1, .slice A2 tss.length c2] 42))) := ((Below.refl _ _).alloc (Nat.le_refl _) _).alloc (by simp) _
  go_enter Try.func36, Try.ntmps36
  go_wp2_with fail
  generalize ((w.alloc (.cells #[.int .i64 x, .int .i64 y, .int .i64 z] 38)).alloc (.cells #[.slice A1 ss.length c1, .slice A2 tss.length c2] 42)) = W at *
  refine (CA.out _ HB0.out).mono ?_
  rintro e w1 ⟨v, rfl, hr, hb1⟩
  have HR := Lib.hid hr
  have HB1 : Hid (Below w.heap.size w w1) := HB0.out.trans (hb1.mono HB0.out.size)
  clear hb1 hr
  go_wp2_with fail
  refine (CL.out _ _ _ _ HR.out).mono ?_
  rintro e w2 ⟨v', rfl, hr2, hb2⟩
  have HR2 := Lib.hid (hr2.mono HB1.out.size)
  have HB2 : Hid (Below w.heap.size w w2) := HB1.out.trans (hb2.mono HB1.out.size)
  clear hr2 hb2
  go_wp2
  go_ret2
  exact ⟨_, rfl, HR2.out, HB2.out⟩
end Go.Proofs.Ythdbcncdihcggaa
