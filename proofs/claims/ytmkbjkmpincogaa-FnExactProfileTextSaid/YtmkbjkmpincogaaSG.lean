/-
  Contracts: the mined blocks of a profile, in the program and in the model of it.
-/
import Derived.Test.YtmkbjkmpincogaaSF
namespace Go.Proofs.Ytmkbjkmpincogaa
open Go.RowKit
set_option linter.unusedVariables false

/-- Whether block k is marked. -/
def bAt (bs : List Bool) : Int → Bool := fun i => bs.getD i.toNat false

set_option maxHeartbeats 400000 in
theorem c_fnMarked (b : Bool) (w : World) : Calls Try.prog 70 #[.bool b] w fun e w' => e = .returned (.bool b) ∧ w = w' := by
  go_enter Try.func70, Try.ntmps70
  go_wp2
  go_ret
  exact ⟨rfl, rfl⟩

set_option maxHeartbeats 1000000 in
theorem c_whereMarks (bs : List Bool) (g c : Nat) (B : Nat) (w : World) (hl : bs.length ≤ 4000000) (h : RowB w B (.slice (some ⟨g, 0, none⟩) bs.length c) bs) :
    Calls Try.prog 68 #[.slice (some ⟨g, 0, none⟩) bs.length c, .func (.func 70) #[] #[]] w (GivesRow w (sel (bAt bs) bs.length)) := by
  obtain ⟨i0, hi0, hz0, hz1, hz2⟩ := info_parts int_info
  have HI := Lib.hid hi0
  clear hi0
  have E1 : Hid (∀ (k : Nat), k < bs.length → w.cell? ⟨g, k, none⟩ = some (.bool (bs.getD k false)) ∧ g < w.heap.size) := fun k hk => ⟨h.cell k hk, h.blk (by omega)⟩
  have HP : Hid (∀ k : Nat, bAt bs k = bs.getD k false) := fun k => rfl
  clear h
  generalize bAt bs = p at *
  generalize hn : bs.length = n at *
  clear hn
  go_enter Try.func68, Try.ntmps68
  go_wp2_with fail
  go_loopw [5, 10] (fun v i wr => ∃ k : Nat, k ≤ n ∧ i = .int .i64 k ∧ Row wr w.heap.size v (sel p k) ∧ Below w.heap.size w wr) (fun _ i _ => n - (intOf i).toNat)
  case atStart => exact ⟨0, Nat.zero_le _, rfl, Row.nil _ _, Below.refl _ _⟩
  case round =>
    obtain ⟨k, hk, rfl, hr, hbw⟩ := hrel
    have HR := Lib.hid hr
    have HB := Lib.hid hbw
    clear hr hbw
    by_cases hlt : k < n
    · obtain ⟨hcc, hbl⟩ := E1.out k hlt
      have q1 : wr.cell? ⟨g, k, none⟩ = some (.bool (bs.getD k false)) := by rw [HB.out.cell (p := ⟨g, k, none⟩) hbl]; exact hcc
      have hp : Hid (p k = bs.getD k false) := HP.out k
      clear hcc hbl
      generalize bs.getD k false = t at *
      have b1 : (0 : Int) ≤ (k : Int) := by omega
      have b2 : (k : Int) < (n : Int) := by omega
      have hlen := sel_len p k
      have sw := HB.out.size
      go_wp2_with fail
      refine (c_fnMarked _ _).mono ?_
      rintro e w2 ⟨rfl, rfl⟩
      cases t
      · have HQ : Hid (p k = false) := hp.out
        go_wp2
        go_roundw
        case rel => exact ⟨k + 1, by omega, by go_num, by rw [sel_miss HQ.out]; exact HR.out, HB.out⟩
        case measure => simp [intOf]; omega
      · have HQ : Hid (p k = true) := hp.out
        go_wp2_with (at_builtin; refine wpList_append_own _ rfl _ _ 27 rfl (w.heap.size) 3 i0 (.int .i64 0) 1 8 Try.underlying27 HI.out hz0 hz1 hz2 rfl (by decide) _ _ _ rfl (World.ownsRow.alloc HR.out _) ⟨wr.heap.size, 0, none⟩ 1 1 [.int .i64 k] rfl rfl ?c1 ?c2 ?c3 ?c4 ?c5 ?_)
        case c1 =>
          intro j u hj
          match j, hj with
          | 0, hj => simp at hj; subst hj; simp [Addr.add]
        case c2 => intro u hu; simp at hu; subst hu; rfl
        case c3 => unfold maxLen; omega
        case c4 => omega
        case c5 => simp; omega
        intro v' w4 hown' hgrow _
        have R1 : Hid (Row w4 w.heap.size v' (sel p (k + 1))) := by rw [sel_hit HQ.out]; exact row_more hown'
        have R2 : Hid (Below w.heap.size w w4) := (HB.out.alloc sw _).grown hgrow (by simp; omega) (fun g hg => (World.ownsRow.lt HR.out g hg).1)
        clear hown' hgrow
        go_wp2
        go_roundw
        case rel => exact ⟨k + 1, by omega, by go_num, R1.out, R2.out⟩
        case measure => simp [intOf]; omega
    · obtain rfl : k = n := by omega
      go_wp2
      go_ret
      exact ⟨_, rfl, HR.out, HB.out⟩

/-- The first k values of a function. -/
def upB (f : Nat → Bool) (k : Nat) : List Bool := (List.range k).map f
theorem upB_succ (f : Nat → Bool) (k : Nat) : upB f k ++ [f k] = upB f (k + 1) := by simp [upB, List.range_succ]
theorem upB_len (f : Nat → Bool) (k : Nat) : (upB f k).length = k := by simp [upB]
theorem upB_at (f : Nat → Bool) {k j : Nat} (h : j < k) : (upB f k).getD j false = f j := by simp [upB, h]
/-- Whether each block is mined. -/
def mkF (p : List Int) (n : Nat) : Nat → Bool := fun i => miB p n (i : Int)
theorem mkF_at (p : List Int) {n c z : Nat} (hc : c < n) : mkF p n (z * n + c) = decide ((z : Int) < p.getD c 0) := miB_at p hc
theorem RowB.nil (w : World) (B : Nat) : RowB w B (.slice none 0 0) [] := World.ownsRow_nil _ _ _ _
theorem bool_infoS : (Try.prog.info? 4).map (fun i => (i.zero, i.size, i.bytes)) = some (some (.bool false), 1, 1) := by kernel_rfl
theorem rowB_at {w3 : World} {B n : Nat} {v' : Value} {xs : List Bool} {a : Bool} (h : w3.ownsRow B 4 1 v' n (bools xs ++ [.bool a])) (hn : n = xs.length + 1) : RowB w3 B v' (xs ++ [a]) := by
  subst hn
  unfold RowB
  rw [List.length_append, show bools (xs ++ [a]) = bools xs ++ [.bool a] by simp [bools]]
  exact h
theorem RowB.form {w : World} {B : Nat} {v : Value} {bs : List Bool} (h : RowB w B v bs) (h0 : 0 < bs.length) : ∃ g c, v = .slice (some ⟨g, 0, none⟩) bs.length c ∧ B ≤ g ∧ g < w.heap.size := World.ownsRow.form h h0

theorem new_cell (w : World) (x : Value) (e : TypeId) : ∀ j u, [x][j]? = some u → (w.alloc (.cells #[x] e)).cell? ((⟨w.heap.size, 0, none⟩ : Addr).add j) = some u := by
  intro j u hj
  match j, hj with
  | 0, hj => simp at hj; subst hj; simp [Addr.add]
set_option maxHeartbeats 4000000 in
theorem c_minedMarks (xss : List (List Int)) (p : List Int) (n D : Nat) (v u : Value) (w : World) (S : Sec xss n D) (hq : Pro p n D) (h : SeenC w v xss) (hp : Seen w u p) :
    Calls Try.prog 69 #[v, u] w fun e w' => ∃ q, e = .returned q ∧ RowB w' w.heap.size q (upB (mkF p n) (D * n)) ∧ Below w.heap.size w w' := by
  have hs := h.seen
  obtain ⟨A, c, rfl, hm⟩ := hs.shape
  obtain ⟨b0, off0, A0, c0, rfl, q0⟩ := hs.col0 (by have := S.len; have := S.n1; omega)
  have hbl : b0 < w.heap.size := lt_of_cell q0
  rw [S.dep] at q0
  obtain ⟨A2, c2, rfl, _, hA⟩ := hp
  rw [hq.len] at hA
  have E1 : Hid (∀ k : Nat, k < n → ∃ b off, A2 = some ⟨b, off, none⟩ ∧ b < w.heap.size ∧ w.cell? ⟨b, off + k, none⟩ = some (.int .i64 (p.getD k 0))) := fun k hk => by
    obtain ⟨b, off, rfl, hl, hc⟩ := hA (by omega)
    exact ⟨b, off, rfl, hl, hc k hk⟩
  have EF : Hid (∀ k z : Nat, k < n → mkF p n (z * n + k) = decide ((z : Int) < p.getD k 0)) := fun k z hk => mkF_at p hk
  have EU : Hid (∀ k, upB (mkF p n) k ++ [mkF p n k] = upB (mkF p n) (k + 1)) := fun k => upB_succ _ _
  have EL : Hid (∀ k, (upB (mkF p n) k).length = k) := upB_len _
  have E0 : Hid (upB (mkF p n) 0 = []) := rfl
  have n1 := S.n1
  have n2 := S.n2
  have m1 := S.d1
  have m2 := S.d2
  rw [S.len, hq.len]
  have d3 : (0 : Int) < (n : Int) := by omega
  obtain ⟨i0, hi0, hz0, hz1, hz2⟩ := info_parts bool_infoS
  have HI := Lib.hid hi0
  clear hi0 S h hs hm hq hA
  generalize upB (mkF p n) = U at *
  generalize mkF p n = L at *
  go_enter Try.func69, Try.ntmps69
  go_wp2_with fail
  go_loopw [5, 13] (fun q i wr => ∃ z : Nat, z ≤ D ∧ i = .int .i64 z ∧ RowB wr w.heap.size q (U (z * n)) ∧ Below w.heap.size w wr) (fun _ i _ => D - (intOf i).toNat)
  case atStart => exact ⟨0, Nat.zero_le _, rfl, by rw [Nat.zero_mul, E0.out]; exact RowB.nil _ _, Below.refl _ _⟩
  case round =>
    obtain ⟨z, hz, rfl, hr, hb⟩ := hrel
    have HR0 := Lib.hid hr
    have HB0 := Lib.hid hb
    clear hr hb
    by_cases hlz : z < D
    · have z1 : (0 : Int) ≤ (z : Int) := by omega
      have z2 : (z : Int) < (D : Int) := by omega
      go_wp2_with fail
      go_loopw [5, 18] (fun q i wr => ∃ k : Nat, k ≤ n ∧ i = .int .i64 k ∧ RowB wr w.heap.size q (U (z * n + k)) ∧ Below w.heap.size w wr) (fun _ i _ => n - (intOf i).toNat)
      case atStart => exact ⟨0, Nat.zero_le _, rfl, HR0.out, HB0.out⟩
      case round =>
        obtain ⟨k, hk, rfl, hr, hb⟩ := hrel
        have HR := Lib.hid hr
        have HB := Lib.hid hb
        clear hr hb
        by_cases hlt : k < n
        · obtain ⟨b', off', rfl, hb', q3⟩ := E1.out k hlt
          obtain ⟨t, ht⟩ : ∃ t, L (z * n + k) = t := ⟨_, rfl⟩
          have hd := EF.out k z hlt
          rw [ht] at hd
          have HD := Lib.hid hd
          clear hd
          generalize p.getD k 0 = x at *
          rw [← HB.out.cell (p := ⟨b', off' + k, none⟩) hb'] at q3
          have b1 : (0 : Int) ≤ (k : Int) := by omega
          have b2 : (k : Int) < (n : Int) := by omega
          have hmm := mul_step hlz m2 n2 hk
          have hU := EL.out (z * n + k)
          have hU2 := Lib.hid (EU.out (z * n + k))
          rw [ht] at hU2
          have sw := HB.out.size
          cases t
          · have hx : ¬ x > (z : Int) := by have := HD.out; simp at this; omega
            clear ht HD
            go_wp2_with (at_builtin; refine wpList_append_own _ rfl _ _ 61 rfl (w.heap.size) 4 i0 (.bool false) 1 1 Try.underlying61 HI.out hz0 hz1 hz2 rfl (by decide) _ _ _ rfl (World.ownsRow.alloc HR.out _) ⟨wr.heap.size, 0, none⟩ 1 1 [.bool false] rfl rfl (new_cell wr _ _) (by intro u hu; simp at hu; subst hu; rfl) (by unfold maxLen; omega) (by omega) (by simp; omega) ?_)
            intro v' w4 hown' hgrow _
            have R1 : Hid (RowB w4 w.heap.size v' (U (z * n + (k + 1)))) := by rw [← Nat.add_assoc, ← hU2.out]; exact rowB_at hown' (by rw [hU])
            have R2 : Hid (Below w.heap.size w w4) := (HB.out.alloc sw _).grown hgrow (by simp; omega) (fun g hg => (World.ownsRow.lt HR.out g hg).1)
            clear hown' hgrow
            go_wp2
            go_roundw
            case rel => exact ⟨k + 1, by omega, by go_num, R1.out, R2.out⟩
            case measure => simp [intOf]; omega
          · have hx : x > (z : Int) := by have := HD.out; simp at this; omega
            clear ht HD
            go_wp2_with (at_builtin; refine wpList_append_own _ rfl _ _ 61 rfl (w.heap.size) 4 i0 (.bool false) 1 1 Try.underlying61 HI.out hz0 hz1 hz2 rfl (by decide) _ _ _ rfl (World.ownsRow.alloc HR.out _) ⟨wr.heap.size, 0, none⟩ 1 1 [.bool true] rfl rfl (new_cell wr _ _) (by intro u hu; simp at hu; subst hu; rfl) (by unfold maxLen; omega) (by omega) (by simp; omega) ?_)
            intro v' w4 hown' hgrow _
            have R1 : Hid (RowB w4 w.heap.size v' (U (z * n + (k + 1)))) := by rw [← Nat.add_assoc, ← hU2.out]; exact rowB_at hown' (by rw [hU])
            have R2 : Hid (Below w.heap.size w w4) := (HB.out.alloc sw _).grown hgrow (by simp; omega) (fun g hg => (World.ownsRow.lt HR.out g hg).1)
            clear hown' hgrow
            go_wp2
            go_roundw
            case rel => exact ⟨k + 1, by omega, by go_num, R1.out, R2.out⟩
            case measure => simp [intOf]; omega
        · obtain rfl : k = n := by omega
          have R1 := HR
          rw [← mul_succ'] at R1
          go_wp2
          go_roundw
          case rel => exact ⟨z + 1, by omega, by go_num, R1.out, HB.out⟩
          case measure => simp [intOf]; omega
    · obtain rfl : z = D := by omega
      go_wp2
      go_ret
      exact ⟨_, rfl, HR0.out, HB0.out⟩
end Go.Proofs.Ytmkbjkmpincogaa
