/-
  Contracts: the number that a part without fields can be replaced by, in the program.
-/
import Derived.Test.YtdodmcmkelegoaaF6
import Derived.Test.YtdodmcmkelegoaaH1
import Derived.Test.YtdodmcmkelegoaaE2
import Derived.Deep.RegionHeld3
namespace Go.Proofs.Ytdodmcmkelegoaa
open Go.RowKit
set_option linter.unusedVariables false
set_option linter.unusedSimpArgs false

set_option maxHeartbeats 400000 in
theorem c_fnIsField (k v : Int) (w : World) : Calls Try.prog 157 #[.agg #[.int .i64 k, .int .i64 v]] w fun e w' => e = .returned (.bool (decide (k = 1))) ∧ Below w.heap.size w w' := by
  go_enter Try.func157, Try.ntmps157
  go_wp2
  go_ret
  exact ⟨ret_bool (by rw [Bool.eq_iff_iff]; simp), by go_grown⟩

set_option maxHeartbeats 1000000 in
set_option maxRecDepth 100000 in
theorem c_indexFn (ks vs : Nat → Int) (b o lo len c : Nat) (w : World) (hl : len ≤ 1048576) (hc : ∀ j : Nat, j < len → w.cell? ⟨b, o + j * 2, none⟩ = some (.int .i64 (ks (lo + j))) ∧ w.cell? ⟨b, o + j * 2 + 1, none⟩ = some (.int .i64 (vs (lo + j)))) :
    Calls Try.prog 162 #[.slice (some ⟨b, o, none⟩) len c, .func (.func 157) #[] #[]] w fun e w' => (∃ i : Int, e = .returned (.int .i64 i) ∧ decide (0 ≤ i) = !noFd ks lo len) ∧ Below w.heap.size w w' := by
  have HC := Lib.hid hc
  clear hc
  go_enter Try.func162, Try.ntmps162
  go_wp2_with fail
  go_loopw [8] (fun i wr => ∃ j : Nat, j ≤ len ∧ i = .int .i64 j ∧ (∀ q, q < j → ks (lo + q) ≠ 1) ∧ Below w.heap.size w wr) (fun i _ => len - (intOf i).toNat)
  case atStart => exact ⟨0, Nat.zero_le _, rfl, fun q hq => by omega, Below.refl _ _⟩
  case round =>
    obtain ⟨j, hj, rfl, hv, hbw⟩ := hrel
    have HV := Lib.hid hv
    have HB := Lib.hid hbw
    clear hv hbw
    by_cases hlt : j < len
    · obtain ⟨r0, r1⟩ := HC.out j hlt
      have q0 := cell_at HB.out r0
      have q1 := cell_at HB.out r1
      have b1 : (0 : Int) ≤ (j : Int) := by omega
      have b2 : (j : Int) < (len : Int) := by omega
      clear r0 r1
      by_cases h1 : ks (lo + j) = 1
      · have G : Hid (decide (0 ≤ (j : Int)) = !noFd ks lo len) := by rw [noFd_no hlt h1, decide_eq_true b1]; rfl
        rw [h1] at q0
        clear h1
        generalize vs (lo + j) = v at *
        go_wp2_with fail
        refine (c_fnIsField _ _ _).mono ?_
        rintro e w2 ⟨rfl, hb2⟩
        have HB2 : Hid (Below w.heap.size w w2) := HB.out.trans (hb2.mono HB.out.size)
        clear hb2
        go_wp2
        go_ret
        exact ⟨⟨j, rfl, G.out⟩, HB2.out⟩
      · have G : Hid (∀ q, q < j + 1 → ks (lo + q) ≠ 1) := fun q hq => by
          by_cases e : q < j
          · exact HV.out q e
          · obtain rfl : q = j := by omega
            exact h1
        have hd : decide (ks (lo + j) = 1) = false := decide_eq_false h1
        clear h1
        generalize vs (lo + j) = v at *
        generalize ks (lo + j) = k at *
        go_wp2_with fail
        refine (c_fnIsField _ _ _).mono ?_
        rintro e w2 ⟨rfl, hb2⟩
        have HB2 : Hid (Below w.heap.size w w2) := HB.out.trans (hb2.mono HB.out.size)
        clear hb2
        rw [hd]
        go_wp2
        go_roundw
        case rel => exact ⟨j + 1, by omega, by go_num, G.out, HB2.out⟩
        case measure => simp [intOf]; omega
    · obtain rfl : j = len := by omega
      have G : Hid (decide (0 ≤ (-1 : Int)) = !noFd ks lo j) := by rw [noFd_yes HV.out]; rfl
      go_wp2
      go_ret
      exact ⟨⟨-1, rfl, G.out⟩, HB.out⟩

set_option maxHeartbeats 1000000 in
theorem c_containsFn (ks vs : Nat → Int) (b o lo len c : Nat) (w : World) (hl : len ≤ 1048576) (hc : ∀ j : Nat, j < len → w.cell? ⟨b, o + j * 2, none⟩ = some (.int .i64 (ks (lo + j))) ∧ w.cell? ⟨b, o + j * 2 + 1, none⟩ = some (.int .i64 (vs (lo + j)))) :
    Calls Try.prog 156 #[.slice (some ⟨b, o, none⟩) len c, .func (.func 157) #[] #[]] w fun e w' => e = .returned (.bool (!noFd ks lo len)) ∧ Below w.heap.size w w' := by
  have C := Lib.hid (c_indexFn ks vs b o lo len c w hl hc)
  clear hc
  go_enter Try.func156, Try.ntmps156
  go_wp2_with fail
  refine C.out.mono ?_
  rintro e w1 ⟨⟨i, rfl, hi⟩, hb⟩
  have HB := Lib.hid hb
  have HI := Lib.hid hi
  clear hb hi
  go_wp2
  go_ret
  exact ⟨ret_bool HI.out, HB.out⟩

/-- A part, a number, and whether it is told. -/
def GivesC (w : World) (o : Option Int) (e : Ending) (w' : World) : Prop := (∃ x, e = .returned (.tuple #[.agg #[.int .i64 0, .int .i64 x], .bool o.isSome]) ∧ ∀ y, o = some y → x = y) ∧ Below w.heap.size w w'
theorem GivesC.no {w w' : World} {e : Ending} (h : GivesC w none e w') : (∃ x, e = .returned (.tuple #[.agg #[.int .i64 0, .int .i64 x], .bool false])) ∧ Below w.heap.size w w' := ⟨by obtain ⟨x, hx, _⟩ := h.1; exact ⟨x, hx⟩, h.2⟩
theorem GivesC.yes {w w' : World} {e : Ending} {a : Int} (h : GivesC w (some a) e w') : e = .returned (.tuple #[.agg #[.int .i64 0, .int .i64 a], .bool true]) ∧ Below w.heap.size w w' := ⟨by obtain ⟨x, hx, hy⟩ := h.1; rw [hx, hy a rfl]; rfl, h.2⟩

set_option maxHeartbeats 4000000 in
set_option maxRecDepth 100000 in
theorem c_constantOf (ks vs : Nat → Int) (b : Nat) (t : Tr) (o lo c e : Nat) (w : World) (hA : At ks t e) (hlo : lo + t.size = e + 1) (hl : t.size ≤ 1048576) (hc : t.size ≤ c) (hb : b < w.heap.size)
    (hv : ∀ j : Nat, j < t.size → 0 ≤ ks (lo + j) ∧ ks (lo + j) ≤ 8)
    (hp : ∀ j : Nat, j < t.size → ks (lo + j) = 0 → 0 ≤ vs (lo + j) ∧ vs (lo + j) ≤ 1000000)
    (hcell : ∀ j : Nat, j < t.size → w.cell? ⟨b, o + j * 2, none⟩ = some (.int .i64 (ks (lo + j))) ∧ w.cell? ⟨b, o + j * 2 + 1, none⟩ = some (.int .i64 (vs (lo + j)))) :
    Calls Try.prog 144 #[.slice (some ⟨b, o, none⟩) t.size c] w (GivesC w (cst ks vs t e)) := by
  have CC : Hid (∀ u, Below w.heap.size w u → Calls Try.prog 156 #[.slice (some ⟨b, o, none⟩) t.size c, .func (.func 157) #[] #[]] u fun e w' => e = .returned (.bool (!noFd ks lo t.size)) ∧ Below u.heap.size u w') := fun u hu =>
    c_containsFn ks vs b o lo t.size c u hl (fun j hj => ⟨cell_at hu (hcell j hj).1, cell_at hu (hcell j hj).2⟩)
  have hlo' : e + 1 - t.size = lo := by omega
  have KX : Hid (∀ u, Below (w.alloc (.cells #[.int .i64 0, .int .i64 0] 87)).heap.size (w.alloc (.cells #[.int .i64 0, .int .i64 0] 87)) u → u.cell? ⟨w.heap.size, 0, none⟩ = some (.int .i64 0) ∧ u.cell? ⟨w.heap.size, 1, none⟩ = some (.int .i64 0) ∧ u.frozen? ⟨w.heap.size, 0, none⟩ = false ∧ u.frozen? ⟨w.heap.size, 1, none⟩ = false ∧ w.heap.size < u.heap.size) := fun u hu =>
    ⟨cell_at hu (by simp), cell_at hu (by simp), by rw [hu.frozen (p := ⟨w.heap.size, 0, none⟩) (by simp)]; simp, by rw [hu.frozen (p := ⟨w.heap.size, 1, none⟩) (by simp)]; simp, by have := hu.size; simp at this; omega⟩
  have HB0 : Hid (Below w.heap.size w (w.alloc (.cells #[.int .i64 0, .int .i64 0] 87))) := (Below.refl _ _).alloc (Nat.le_refl _) _
  cases hn : noFd ks lo t.size
  · have E : cst ks vs t e = none := by unfold cst; rw [hlo', hn]; rfl
    rw [E]
    rw [hn] at CC
    have CC' : Hid (∀ u, Below w.heap.size w u → Calls Try.prog 156 #[.slice (some ⟨b, o, none⟩) t.size c, .func (.func 157) #[] #[]] u fun e w' => e = .returned (.bool true) ∧ Below u.heap.size u w') := CC
    clear hA hlo hlo' hv hp hcell hn CC E
    generalize t.size = n at *
    go_enter Try.func144, Try.ntmps144
    go_wp2_with fail
    refine (CC'.out _ HB0.out).mono ?_
    rintro e w1 ⟨rfl, hb1⟩
    have HB1 : Hid (Below w.heap.size w w1) := HB0.out.trans (hb1.mono HB0.out.size)
    obtain ⟨x0, x1, x2, x3, x4⟩ := KX.out _ hb1
    clear hb1 KX
    go_wp2
    have y0 : ((w1.setCell ⟨w.heap.size, 0, none⟩ (.int .i64 0)).setCell ⟨w.heap.size, 1, none⟩ (.int .i64 0)).cell? ⟨w.heap.size, 0, none⟩ = some (.int .i64 0) := by
      rw [World.cell?_setCell_other _ _ _ _ (by simp), World.cell?_setCell_same _ _ _ x0]
    have y1 : ((w1.setCell ⟨w.heap.size, 0, none⟩ (.int .i64 0)).setCell ⟨w.heap.size, 1, none⟩ (.int .i64 0)).cell? ⟨w.heap.size, 1, none⟩ = some (.int .i64 0) := World.cell?_setCell_same _ _ _ (u := .int .i64 0) (by rw [World.cell?_setCell_other _ _ _ _ (by simp)]; exact x1)
    have HZ : Hid (Below w.heap.size w ((w1.setCell ⟨w.heap.size, 0, none⟩ (.int .i64 0)).setCell ⟨w.heap.size, 1, none⟩ (.int .i64 0))) := (HB1.out.setCell (Nat.le_refl _) _).setCell (Nat.le_refl _) _
    refine bodyPost_ret (v := .tuple #[.agg #[.int .i64 0, .int .i64 0], .bool false]) (by simp [results, Try.results144, go_sem, y0, y1]) rfl ⟨⟨_, rfl, fun y hy => by cases hy; try rfl⟩, HZ.out⟩
  · have E : cst ks vs t e = (ev ks vs [] t e).bind chkN := by unfold cst; rw [hlo', hn]; rfl
    rw [E]
    rw [hn] at CC
    have CC' : Hid (∀ u, Below w.heap.size w u → Calls Try.prog 156 #[.slice (some ⟨b, o, none⟩) t.size c, .func (.func 157) #[] #[]] u fun e w' => e = .returned (.bool false) ∧ Below u.heap.size u w') := CC
    have CF : Hid (∀ u, Below w.heap.size w u → Calls Try.prog 68 #[.slice (some ⟨b, o, none⟩) t.size c] u (GivesF true u.heap.size u (fun fs => ev ks vs fs t e))) := fun u hu =>
      c_formulaOf true ks vs b t.size t o lo c e u (Nat.le_refl _) hA hlo hl hc (Nat.lt_of_lt_of_le hb hu.size) hv (fun j hj => ⟨hp j hj, fun h => absurd h (noFd_to hn j hj)⟩) (fun j hj => ⟨cell_at hu (hcell j hj).1, cell_at hu (hcell j hj).2⟩)
    have CT : Hid (∀ (F : Value) (l h : Nat) (u : World), FnV true l h u F (fun fs => ev ks vs fs t e) → Calls Try.prog 98 #[F, .slice none 0 0] u fun e' w' => e' = .returned (.tuple #[.int .i64 (tvV (ev ks vs [] t e)), .bool (ev ks vs [] t e).isSome]) ∧ Below u.heap.size u w') := fun F l h u hF =>
      c_tryFormula true l h F (.slice none 0 0) [] _ u hF ⟨none, 0, rfl, by unfold maxLen; simp, fun h => by simp at h⟩ ⟨rfl, fun j => by simp⟩
    clear hA hlo hlo' hv hp hcell hn CC E
    generalize ev ks vs [] t e = o9 at *
    generalize (fun fs => ev ks vs fs t e) = fo at *
    generalize t.size = n at *
    cases o9 with
    | none =>
      have CT' : Hid (∀ (F : Value) (l h : Nat) (u : World), FnV true l h u F fo → Calls Try.prog 98 #[F, .slice none 0 0] u fun e' w' => e' = .returned (.tuple #[.int .i64 0, .bool false]) ∧ Below u.heap.size u w') := CT
      clear CT
      go_enter Try.func144, Try.ntmps144
      go_wp2_with fail
      refine (CC'.out _ HB0.out).mono ?_
      rintro e w1 ⟨rfl, hb1⟩
      have HV1 := Lib.hid hb1
      have HB1 : Hid (Below w.heap.size w w1) := HB0.out.trans (hb1.mono HB0.out.size)
      clear hb1
      go_wp2_with fail
      refine (CF.out _ HB1.out).mono ?_
      rintro e w3 ⟨F, rfl, hF, hb3⟩
      have HF := Lib.hid hF
      have HV3 : Hid (Below (w.alloc (.cells #[.int .i64 0, .int .i64 0] 87)).heap.size (w.alloc (.cells #[.int .i64 0, .int .i64 0] 87)) w3) := HV1.out.trans (hb3.mono HV1.out.size)
      have HB3 : Hid (Below w.heap.size w w3) := HB1.out.trans (hb3.mono HB1.out.size)
      clear hF hb3
      go_wp2_with fail
      refine (CT'.out F _ _ _ HF.out).mono ?_
      rintro e w4 ⟨rfl, hb4⟩
      have HV4 : Hid (Below (w.alloc (.cells #[.int .i64 0, .int .i64 0] 87)).heap.size (w.alloc (.cells #[.int .i64 0, .int .i64 0] 87)) w4) := HV3.out.trans (hb4.mono HV3.out.size)
      have HB4 : Hid (Below w.heap.size w w4) := HB3.out.trans (hb4.mono HB3.out.size)
      clear hb4 HF CC' CF CT'
      have hba : Below w4.heap.size w4 (w4.alloc (.cells #[.int .i64 0, .int .i64 0] 87)) := (Below.refl _ _).alloc (Nat.le_refl _) _
      have HV5 : Hid (Below (w.alloc (.cells #[.int .i64 0, .int .i64 0] 87)).heap.size (w.alloc (.cells #[.int .i64 0, .int .i64 0] 87)) (w4.alloc (.cells #[.int .i64 0, .int .i64 0] 87))) := HV4.out.trans (hba.mono HV4.out.size)
      have HB5 : Hid (Below w.heap.size w (w4.alloc (.cells #[.int .i64 0, .int .i64 0] 87))) := HB4.out.trans (hba.mono HB4.out.size)
      have HN5 : Hid (∀ u, Below (w4.alloc (.cells #[.int .i64 0, .int .i64 0] 87)).heap.size (w4.alloc (.cells #[.int .i64 0, .int .i64 0] 87)) u → u.cell? ⟨w4.heap.size, 0, none⟩ = some (.int .i64 0) ∧ u.cell? ⟨w4.heap.size, 1, none⟩ = some (.int .i64 0)) := fun u hu => ⟨cell_at hu (by simp), cell_at hu (by simp)⟩
      have hne : w.heap.size < w4.heap.size := by have := (KX.out _ HV4.out).2.2.2.2; omega
      have KF : Hid (∀ (u : World) (q : Nat) (v : Value), u.cell? ⟨w4.heap.size, 0, none⟩ = some (.int .i64 0) ∧ u.cell? ⟨w4.heap.size, 1, none⟩ = some (.int .i64 0) → (u.setCell ⟨w.heap.size, q, none⟩ v).cell? ⟨w4.heap.size, 0, none⟩ = some (.int .i64 0) ∧ (u.setCell ⟨w.heap.size, q, none⟩ v).cell? ⟨w4.heap.size, 1, none⟩ = some (.int .i64 0)) := fun u q v h => by
        have e : ∀ z : Nat, (u.setCell ⟨w.heap.size, q, none⟩ v).cell? ⟨w4.heap.size, z, none⟩ = u.cell? ⟨w4.heap.size, z, none⟩ := fun z => World.cell?_setCell_other _ _ _ _ (by intro h'; injection h' with h1; omega)
        exact ⟨by rw [e]; exact h.1, by rw [e]; exact h.2⟩
      clear hba
      go_wp2_with fail
      generalize w4.alloc (.cells #[.int .i64 0, .int .i64 0] 87) = w5 at *
      have KD : Hid (Below w5.heap.size w5 w5.drew) := (Below.refl _ _).drew
      obtain ⟨x0, x1, x2, x3, x4⟩ := KX.out _ HV5.out
      obtain ⟨z0, z1⟩ := HN5.out w5 (Below.refl _ _)
      clear KF KD HN5 KX
      go_region
      go_wp2
      have y0 : ((w5.setCell ⟨w.heap.size, 0, none⟩ (.int .i64 0)).setCell ⟨w.heap.size, 1, none⟩ (.int .i64 0)).cell? ⟨w.heap.size, 0, none⟩ = some (.int .i64 0) := by
        rw [World.cell?_setCell_other _ _ _ _ (by simp), World.cell?_setCell_same _ _ _ x0]
      have y1 : ((w5.setCell ⟨w.heap.size, 0, none⟩ (.int .i64 0)).setCell ⟨w.heap.size, 1, none⟩ (.int .i64 0)).cell? ⟨w.heap.size, 1, none⟩ = some (.int .i64 0) := World.cell?_setCell_same _ _ _ (u := .int .i64 0) (by rw [World.cell?_setCell_other _ _ _ _ (by simp)]; exact x1)
      have y2 : ((w5.setCell ⟨w.heap.size, 0, none⟩ (.int .i64 0)).setCell ⟨w.heap.size, 1, none⟩ (.int .i64 0)).drew.cell? ⟨w.heap.size, 0, none⟩ = some (.int .i64 0) := y0
      have y3 : ((w5.setCell ⟨w.heap.size, 0, none⟩ (.int .i64 0)).setCell ⟨w.heap.size, 1, none⟩ (.int .i64 0)).drew.cell? ⟨w.heap.size, 1, none⟩ = some (.int .i64 0) := y1
      have HZ : Hid (Below w.heap.size w ((w5.setCell ⟨w.heap.size, 0, none⟩ (.int .i64 0)).setCell ⟨w.heap.size, 1, none⟩ (.int .i64 0)).drew) := ((HB5.out.setCell (Nat.le_refl _) _).setCell (Nat.le_refl _) _).drew
      refine bodyPost_ret (v := .tuple #[.agg #[.int .i64 0, .int .i64 0], .bool false]) (by simp [results, Try.results144, go_sem, y2, y3]) rfl ⟨⟨_, rfl, fun y hy => by cases hy; try rfl⟩, HZ.out⟩
    | some r =>
      have eb : (some r).bind chkN = chkN r := rfl
      rw [eb]
      clear eb
      by_cases hd : 0 ≤ r ∧ r ≤ 1000000
      · rw [chkN_yes hd]
        have CT' : Hid (∀ (F : Value) (l h : Nat) (u : World), FnV true l h u F fo → Calls Try.prog 98 #[F, .slice none 0 0] u fun e' w' => e' = .returned (.tuple #[.int .i64 r, .bool true]) ∧ Below u.heap.size u w') := CT
        clear CT
        go_enter Try.func144, Try.ntmps144
        go_wp2_with fail
        refine (CC'.out _ HB0.out).mono ?_
        rintro e w1 ⟨rfl, hb1⟩
        have HV1 := Lib.hid hb1
        have HB1 : Hid (Below w.heap.size w w1) := HB0.out.trans (hb1.mono HB0.out.size)
        clear hb1
        go_wp2_with fail
        refine (CF.out _ HB1.out).mono ?_
        rintro e w3 ⟨F, rfl, hF, hb3⟩
        have HF := Lib.hid hF
        have HV3 : Hid (Below (w.alloc (.cells #[.int .i64 0, .int .i64 0] 87)).heap.size (w.alloc (.cells #[.int .i64 0, .int .i64 0] 87)) w3) := HV1.out.trans (hb3.mono HV1.out.size)
        have HB3 : Hid (Below w.heap.size w w3) := HB1.out.trans (hb3.mono HB1.out.size)
        clear hF hb3
        go_wp2_with fail
        refine (CT'.out F _ _ _ HF.out).mono ?_
        rintro e w4 ⟨rfl, hb4⟩
        have HV4 : Hid (Below (w.alloc (.cells #[.int .i64 0, .int .i64 0] 87)).heap.size (w.alloc (.cells #[.int .i64 0, .int .i64 0] 87)) w4) := HV3.out.trans (hb4.mono HV3.out.size)
        have HB4 : Hid (Below w.heap.size w w4) := HB3.out.trans (hb4.mono HB3.out.size)
        clear hb4 HF CC' CF CT'
        have hba : Below w4.heap.size w4 (w4.alloc (.cells #[.int .i64 0, .int .i64 r] 87)) := (Below.refl _ _).alloc (Nat.le_refl _) _
        have HV5 : Hid (Below (w.alloc (.cells #[.int .i64 0, .int .i64 0] 87)).heap.size (w.alloc (.cells #[.int .i64 0, .int .i64 0] 87)) (w4.alloc (.cells #[.int .i64 0, .int .i64 r] 87))) := HV4.out.trans (hba.mono HV4.out.size)
        have HB5 : Hid (Below w.heap.size w (w4.alloc (.cells #[.int .i64 0, .int .i64 r] 87))) := HB4.out.trans (hba.mono HB4.out.size)
        have HN5 : Hid (∀ u, Below (w4.alloc (.cells #[.int .i64 0, .int .i64 r] 87)).heap.size (w4.alloc (.cells #[.int .i64 0, .int .i64 r] 87)) u → u.cell? ⟨w4.heap.size, 0, none⟩ = some (.int .i64 0) ∧ u.cell? ⟨w4.heap.size, 1, none⟩ = some (.int .i64 r)) := fun u hu => ⟨cell_at hu (by simp), cell_at hu (by simp)⟩
        have hne : w.heap.size < w4.heap.size := by have := (KX.out _ HV4.out).2.2.2.2; omega
        have KF : Hid (∀ (u : World) (q : Nat) (v : Value), u.cell? ⟨w4.heap.size, 0, none⟩ = some (.int .i64 0) ∧ u.cell? ⟨w4.heap.size, 1, none⟩ = some (.int .i64 r) → (u.setCell ⟨w.heap.size, q, none⟩ v).cell? ⟨w4.heap.size, 0, none⟩ = some (.int .i64 0) ∧ (u.setCell ⟨w.heap.size, q, none⟩ v).cell? ⟨w4.heap.size, 1, none⟩ = some (.int .i64 r)) := fun u q v h => by
          have e : ∀ z : Nat, (u.setCell ⟨w.heap.size, q, none⟩ v).cell? ⟨w4.heap.size, z, none⟩ = u.cell? ⟨w4.heap.size, z, none⟩ := fun z => World.cell?_setCell_other _ _ _ _ (by intro h'; injection h' with h1; omega)
          exact ⟨by rw [e]; exact h.1, by rw [e]; exact h.2⟩
        clear hba
        go_wp2_with fail
        generalize w4.alloc (.cells #[.int .i64 0, .int .i64 r] 87) = w5 at *
        have KD : Hid (Below w5.heap.size w5 w5.drew) := (Below.refl _ _).drew
        obtain ⟨x0, x1, x2, x3, x4⟩ := KX.out _ HV5.out
        have hpp : parB 0 r = true := by unfold parB; rw [if_pos rfl]; exact decide_eq_true hd
        clear x0 x1 x2 x3 x4
        go_region_held3 (fun u => u.cell? ⟨w4.heap.size, 0, none⟩ = some (.int .i64 0) ∧ u.cell? ⟨w4.heap.size, 1, none⟩ = some (.int .i64 r)) (first | with_reducible exact HN5.out _ KD.out | with_reducible exact HN5.out _ HU6.out | with_reducible exact KF.out _ _ _ (HN5.out _ HU6.out) | with_reducible exact KF.out _ _ _ (KF.out _ _ _ (HN5.out _ HU6.out)))
          (first | (go_at_call 106; refine (c_isPart _ _ _).mono ?_; rintro e w6 ⟨rfl, hb⟩; rw [hpp]; have HU6 : Hid (Below w5.heap.size w5 w6) := KD.out.trans (hb.mono KD.out.size); obtain ⟨x0, x1, x2, x3, x4⟩ := KX.out _ (HV5.out.trans (HU6.out.mono HV5.out.size)); clear hb))
        have HB6 : Hid (Below w.heap.size w w6) := HB5.out.trans (HU6.out.mono HB5.out.size)
        go_wp2
        have y0 : ((w6.setCell ⟨w.heap.size, 0, none⟩ (.int .i64 0)).setCell ⟨w.heap.size, 1, none⟩ (.int .i64 r)).cell? ⟨w.heap.size, 0, none⟩ = some (.int .i64 0) := by
          rw [World.cell?_setCell_other _ _ _ _ (by simp), World.cell?_setCell_same _ _ _ x0]
        have y1 : ((w6.setCell ⟨w.heap.size, 0, none⟩ (.int .i64 0)).setCell ⟨w.heap.size, 1, none⟩ (.int .i64 r)).cell? ⟨w.heap.size, 1, none⟩ = some (.int .i64 r) := World.cell?_setCell_same _ _ _ (u := .int .i64 0) (by rw [World.cell?_setCell_other _ _ _ _ (by simp)]; exact x1)
        have HZ : Hid (Below w.heap.size w ((w6.setCell ⟨w.heap.size, 0, none⟩ (.int .i64 0)).setCell ⟨w.heap.size, 1, none⟩ (.int .i64 r))) := (HB6.out.setCell (Nat.le_refl _) _).setCell (Nat.le_refl _) _
        refine bodyPost_ret (v := .tuple #[.agg #[.int .i64 0, .int .i64 r], .bool true]) (by simp [results, Try.results144, go_sem, y0, y1]) rfl ⟨⟨_, rfl, fun y hy => by cases hy; try rfl⟩, HZ.out⟩
      · rw [chkN_no hd]
        have CT' : Hid (∀ (F : Value) (l h : Nat) (u : World), FnV true l h u F fo → Calls Try.prog 98 #[F, .slice none 0 0] u fun e' w' => e' = .returned (.tuple #[.int .i64 r, .bool true]) ∧ Below u.heap.size u w') := CT
        clear CT
        go_enter Try.func144, Try.ntmps144
        go_wp2_with fail
        refine (CC'.out _ HB0.out).mono ?_
        rintro e w1 ⟨rfl, hb1⟩
        have HV1 := Lib.hid hb1
        have HB1 : Hid (Below w.heap.size w w1) := HB0.out.trans (hb1.mono HB0.out.size)
        clear hb1
        go_wp2_with fail
        refine (CF.out _ HB1.out).mono ?_
        rintro e w3 ⟨F, rfl, hF, hb3⟩
        have HF := Lib.hid hF
        have HV3 : Hid (Below (w.alloc (.cells #[.int .i64 0, .int .i64 0] 87)).heap.size (w.alloc (.cells #[.int .i64 0, .int .i64 0] 87)) w3) := HV1.out.trans (hb3.mono HV1.out.size)
        have HB3 : Hid (Below w.heap.size w w3) := HB1.out.trans (hb3.mono HB1.out.size)
        clear hF hb3
        go_wp2_with fail
        refine (CT'.out F _ _ _ HF.out).mono ?_
        rintro e w4 ⟨rfl, hb4⟩
        have HV4 : Hid (Below (w.alloc (.cells #[.int .i64 0, .int .i64 0] 87)).heap.size (w.alloc (.cells #[.int .i64 0, .int .i64 0] 87)) w4) := HV3.out.trans (hb4.mono HV3.out.size)
        have HB4 : Hid (Below w.heap.size w w4) := HB3.out.trans (hb4.mono HB3.out.size)
        clear hb4 HF CC' CF CT'
        have hba : Below w4.heap.size w4 (w4.alloc (.cells #[.int .i64 0, .int .i64 r] 87)) := (Below.refl _ _).alloc (Nat.le_refl _) _
        have HV5 : Hid (Below (w.alloc (.cells #[.int .i64 0, .int .i64 0] 87)).heap.size (w.alloc (.cells #[.int .i64 0, .int .i64 0] 87)) (w4.alloc (.cells #[.int .i64 0, .int .i64 r] 87))) := HV4.out.trans (hba.mono HV4.out.size)
        have HB5 : Hid (Below w.heap.size w (w4.alloc (.cells #[.int .i64 0, .int .i64 r] 87))) := HB4.out.trans (hba.mono HB4.out.size)
        have HN5 : Hid (∀ u, Below (w4.alloc (.cells #[.int .i64 0, .int .i64 r] 87)).heap.size (w4.alloc (.cells #[.int .i64 0, .int .i64 r] 87)) u → u.cell? ⟨w4.heap.size, 0, none⟩ = some (.int .i64 0) ∧ u.cell? ⟨w4.heap.size, 1, none⟩ = some (.int .i64 r)) := fun u hu => ⟨cell_at hu (by simp), cell_at hu (by simp)⟩
        have hne : w.heap.size < w4.heap.size := by have := (KX.out _ HV4.out).2.2.2.2; omega
        have KF : Hid (∀ (u : World) (q : Nat) (v : Value), u.cell? ⟨w4.heap.size, 0, none⟩ = some (.int .i64 0) ∧ u.cell? ⟨w4.heap.size, 1, none⟩ = some (.int .i64 r) → (u.setCell ⟨w.heap.size, q, none⟩ v).cell? ⟨w4.heap.size, 0, none⟩ = some (.int .i64 0) ∧ (u.setCell ⟨w.heap.size, q, none⟩ v).cell? ⟨w4.heap.size, 1, none⟩ = some (.int .i64 r)) := fun u q v h => by
          have e : ∀ z : Nat, (u.setCell ⟨w.heap.size, q, none⟩ v).cell? ⟨w4.heap.size, z, none⟩ = u.cell? ⟨w4.heap.size, z, none⟩ := fun z => World.cell?_setCell_other _ _ _ _ (by intro h'; injection h' with h1; omega)
          exact ⟨by rw [e]; exact h.1, by rw [e]; exact h.2⟩
        clear hba
        go_wp2_with fail
        generalize w4.alloc (.cells #[.int .i64 0, .int .i64 r] 87) = w5 at *
        have KD : Hid (Below w5.heap.size w5 w5.drew) := (Below.refl _ _).drew
        obtain ⟨x0, x1, x2, x3, x4⟩ := KX.out _ HV5.out
        have hpp : parB 0 r = false := by unfold parB; rw [if_pos rfl]; exact decide_eq_false hd
        clear x0 x1 x2 x3 x4
        go_region_held3 (fun u => u.cell? ⟨w4.heap.size, 0, none⟩ = some (.int .i64 0) ∧ u.cell? ⟨w4.heap.size, 1, none⟩ = some (.int .i64 r)) (first | with_reducible exact HN5.out _ KD.out | with_reducible exact HN5.out _ HU6.out | with_reducible exact KF.out _ _ _ (HN5.out _ HU6.out) | with_reducible exact KF.out _ _ _ (KF.out _ _ _ (HN5.out _ HU6.out)))
          (first | (go_at_call 106; refine (c_isPart _ _ _).mono ?_; rintro e w6 ⟨rfl, hb⟩; rw [hpp]; have HU6 : Hid (Below w5.heap.size w5 w6) := KD.out.trans (hb.mono KD.out.size); obtain ⟨x0, x1, x2, x3, x4⟩ := KX.out _ (HV5.out.trans (HU6.out.mono HV5.out.size)); clear hb))
        have HB6 : Hid (Below w.heap.size w w6) := HB5.out.trans (HU6.out.mono HB5.out.size)
        go_wp2
        have y0 : ((w6.setCell ⟨w.heap.size, 0, none⟩ (.int .i64 0)).setCell ⟨w.heap.size, 1, none⟩ (.int .i64 r)).cell? ⟨w.heap.size, 0, none⟩ = some (.int .i64 0) := by
          rw [World.cell?_setCell_other _ _ _ _ (by simp), World.cell?_setCell_same _ _ _ x0]
        have y1 : ((w6.setCell ⟨w.heap.size, 0, none⟩ (.int .i64 0)).setCell ⟨w.heap.size, 1, none⟩ (.int .i64 r)).cell? ⟨w.heap.size, 1, none⟩ = some (.int .i64 r) := World.cell?_setCell_same _ _ _ (u := .int .i64 0) (by rw [World.cell?_setCell_other _ _ _ _ (by simp)]; exact x1)
        have HZ : Hid (Below w.heap.size w ((w6.setCell ⟨w.heap.size, 0, none⟩ (.int .i64 0)).setCell ⟨w.heap.size, 1, none⟩ (.int .i64 r))) := (HB6.out.setCell (Nat.le_refl _) _).setCell (Nat.le_refl _) _
        refine bodyPost_ret (v := .tuple #[.agg #[.int .i64 0, .int .i64 r], .bool false]) (by simp [results, Try.results144, go_sem, y0, y1]) rfl ⟨⟨_, rfl, fun y hy => by cases hy; try rfl⟩, HZ.out⟩
end Go.Proofs.Ytdodmcmkelegoaa
