/-
Contract: the first best profile out of the table of rests, in the program.
Contracts: BestBelow and BestProfile, in the program.
Contracts: BestBelow and BestProfile, in the model.
-/
import Derived.Test.YtmkbjkmpincogaaSX
import Derived.BigRegion
import Derived.Test.YtmkbjkmpincogaaSY
import Derived.Test.YtmkbjkmpincogaaSR
import Derived.Test.YtmkbjkmpincogaaTI
namespace Go.Proofs.Ytmkbjkmpincogaa
open Go.RowKit
set_option linter.unusedVariables false

set_option maxHeartbeats 2000000 in
theorem c_IndexF (b off K cap a : Nat) (f : Nat → Int) (x : Int) (w : World) (h1 : 1 ≤ K) (h2 : K ≤ 1000) (hc : ∀ j, j < K → w.cell? ⟨b, off + j, none⟩ = some (.int .i64 (f j))) (ha : a < K) (he : f a = x) (hf : ∀ j, j < a → f j ≠ x) :
    Calls Try.prog 82 #[.slice (some ⟨b, off, none⟩) K cap, .int .i64 x] w fun e w' => e = .returned (.int .i64 a) ∧ w = w' := by
  have E1 : Hid (∀ k : Nat, k < K → w.cell? ⟨b, off + k, none⟩ = some (.int .i64 (f k))) := hc
  have E2 : Hid (f a = x) := he
  have E3 : Hid (∀ j, j < a → f j ≠ x) := hf
  clear hc he hf
  go_enter Try.func82, Try.ntmps82
  go_wp2_with fail
  go_loop [8] (fun i => ∃ k : Nat, k ≤ a ∧ i = .int .i64 k) (fun i => K - (intOf i).toNat)
  case atStart => exact ⟨0, by omega, by simp⟩
  case round =>
    obtain ⟨k, hk, rfl⟩ := hrel
    have q0 := E1.out k (by omega)
    have b1 : (0 : Int) ≤ (k : Int) := by omega
    have b2 : (k : Int) < (K : Int) := by omega
    by_cases hlt : k < a
    · have hne := E3.out k hlt
      have X2 : (x == f k) = false := by simp; exact fun e => hne e.symm
      clear hne
      generalize f k = t at *
      go_wp2
      go_round
      case rel => exact ⟨k + 1, by omega, by go_num⟩
      case measure => simp [intOf]; omega
    · obtain rfl : k = a := by omega
      rw [E2.out] at q0
      have X2 : (x == x) = true := by simp
      go_wp2
      go_ret
      exact ⟨rfl, rfl⟩

set_option maxHeartbeats 8000000 in
set_option maxRecDepth 20000 in
theorem c_firstBest (xss : List (List Int)) (p : List Int) (n D B b g : Nat) (ys : List Int) (w : World) (S : Sec xss n D) (hq : Lim p n D) (hT : Tab w B b g p n n ys) (hR : ResTo xss p n n ys) :
    Calls Try.prog 57 #[.slice (some ⟨b, 0, none⟩) n n] w (GivesRow w (trL xss p n)) := by
  obtain ⟨i0, hi0, hz0, hz1, hz2⟩ := info_parts int_info
  have n1 := S.n1
  have n2 := S.n2
  have m2 := S.d2
  have hmk : (Instr.makeSlice 27 (.int .i64 (n : Int)) (.int .i64 (n : Int))).run Try.prog w = .ok (.slice (some ⟨w.heap.size, 0, none⟩) n n) (w.alloc (.cells (madeCells #[.int .i64 0] n) 3)) := by
    have := run_make (P := Try.prog) w 27 3 i0 (.int .i64 0) Try.underlying27 hi0 hz0 .i64 .i64 (n : Int) (n : Int) (by omega) (by omega) (by rw [hz2]; omega) (by omega)
    simpa [hz1, Value.cells] using this
  have HC : Hid (∀ k d (u : World), k < n → d < Lp p k → Below w.heap.size w u → u.cell? ⟨g, offT p k + d, none⟩ = some (.int .i64 (rcF xss p n k d))) := fun k d u hk hd hb => by
    rw [hb.cell (p := ⟨g, offT p k + d, none⟩) hT.lt.2.2.2, (hT.at_ (place_lt hk hd)).1, hR k d (by omega) hk hd]
  have HS : Hid (∀ k (u : World), k < n → Below w.heap.size w u → u.cell? ⟨b, k, none⟩ = some (.slice (some ⟨g, offT p k, none⟩) (Lp p k) (Lp p k))) := fun k u hk hb => by
    rw [hb.cell (p := ⟨b, k, none⟩) hT.lt.2.1]
    exact hT.cell hk hk
  have HL : Hid (∀ k, k < n → 1 ≤ Lp p k ∧ Lp p k ≤ 7) := fun k hk => ⟨(Lp_box hq.pro m2 hk).1, (Lp_box hq.pro m2 hk).2.1⟩
  have HN : Hid (∀ k, k + 1 < n → trF xss p n k ≤ Lp p (k + 1)) := fun k hk => by
    have := tr_lt S hq k (by omega)
    have := hq.near k hk
    omega
  have HA0 : Hid (IsArg (rcF xss p n 0) 0 (Lp p 0 - 1) (trF xss p n 0)) := argF_is _ _ _
  have HAs : Hid (∀ k, IsArg (rcF xss p n (k + 1)) (loN (trF xss p n k)) (cnN (trF xss p n k) (Lp p (k + 1)) - 1) (trF xss p n (k + 1))) := fun k => argF_is _ _ _
  have HTl : Hid ((trL xss p n).length = n) := trL_len _ _ _
  have HTa : Hid (∀ k, k < n → (trL xss p n).getD k 0 = ((trF xss p n k : Nat) : Int)) := fun k hk => trL_at xss p hk
  have HHl : Hid (∀ k, k ≤ n → (half (trL xss p n) k).length = n) := fun k hk => by rw [half_len _ _ (by rw [trL_len]; exact hk), trL_len]
  have HHs : Hid (∀ k, k < n → (half (trL xss p n) k).set k ((trF xss p n k : Nat) : Int) = half (trL xss p n) (k + 1)) := fun k hk => by
    rw [← trL_at xss p hk]
    exact half_set _ _ (by rw [trL_len]; exact hk)
  have HHa : Hid (∀ k, k + 1 < n → (half (trL xss p n) (k + 1)).getD k 0 = ((trF xss p n k : Nat) : Int)) := fun k hk => by
    rw [← HHs.out k (by omega), set_getD (by rw [HHl.out k (by omega)]; omega), if_pos rfl]
  have HH0 : Hid (half (trL xss p n) 0 = List.replicate n 0) := by show _ = _; rw [half_zero, trL_len]
  have HHe : Hid (half (trL xss p n) n = trL xss p n) := by
    have := half_all (trL xss p n)
    rw [trL_len] at this
    exact this
  have HB0 : Hid (Below w.heap.size w (w.alloc (.cells (madeCells #[.int .i64 0] n) 3))) := (Below.refl _ _).alloc (Nat.le_refl _) _
  have HR0 : Hid (Row (w.alloc (.cells (madeCells #[.int .i64 0] n) 3)) w.heap.size (.slice (some ⟨w.heap.size, 0, none⟩) n n) (half (trL xss p n) 0)) := by rw [HH0.out]; exact row_zeros w n (by unfold maxLen; omega)
  have q0 := HS.out 0 _ (by omega) HB0.out
  clear hi0 hT hR S hq
  generalize half (trL xss p n) = HF at *
  have n0 : (0 : Int) < (n : Int) := by omega
  go_enter Try.func57, Try.ntmps57
  go_wp2_with fail
  clear hmk
  generalize w.alloc (.cells (madeCells #[.int .i64 0] n) 3) = w1 at *
  go_region
  go_wp2_with fail
  go_loopw [4, 5, 15] (fun a q i wr => ∃ k : Nat, k ≤ n ∧ i = .int .i64 k ∧ (k = 0 → a = .int .i64 0 ∧ q = .slice (some ⟨g, offT p 0, none⟩) (Lp p 0) (Lp p 0)) ∧ Row wr w.heap.size (.slice (some ⟨w.heap.size, 0, none⟩) n n) (HF k) ∧ Below w.heap.size w wr) (fun _ _ i _ => n - (intOf i).toNat)
  case atStart => exact ⟨0, Nat.zero_le _, rfl, fun _ => ⟨rfl, rfl⟩, HR0.out.draws 1, HB0.out.drew⟩
  case round =>
    obtain ⟨k, hk, rfl, hst, hr, hb⟩ := hrel
    have HR := Lib.hid hr
    have HB := Lib.hid hb
    clear hr hb q0
    by_cases hlt : k < n
    · have k1 : (0 : Int) ≤ (k : Int) := by omega
      have k2 : (k : Int) < (n : Int) := by omega
      have hl := HL.out k hlt
      cases k with
      | zero =>
        obtain ⟨rfl, rfl⟩ := hst rfl
        have CM := Lib.hid (c_MaxF g (offT p 0) (Lp p 0) (Lp p 0) (rcF xss p n 0) wr hl.1 (by omega) (fun j hj => HC.out 0 j wr hlt hj HB.out))
        have IA := HA0.out
        have CI := Lib.hid (c_IndexF g (offT p 0) (Lp p 0) (Lp p 0) (trF xss p n 0) (rcF xss p n 0) (maxF (rcF xss p n 0) 0 (Lp p 0 - 1)) wr hl.1 (by omega) (fun j hj => HC.out 0 j wr hlt hj HB.out) (by have := IA.2.1; omega) IA.2.2.1 (fun j hj => IA.2.2.2 j (Nat.zero_le _) hj))
        have htr : (trF xss p n 0 : Nat) ≤ 1000 := by have := IA.2.1; omega
        clear IA
        have f1 := row_fz (HHl.out 0 (by omega)) HR.out 0
        obtain ⟨f2, f3⟩ := row_cl (HHl.out 0 (by omega)) HR.out hlt
        have hst2 := Row.set_ (HHl.out 0 (by omega)).symm HR.out 0 ((trF xss p n 0 : Nat) : Int)
        rw [HHs.out 0 hlt] at hst2
        have HST := Lib.hid hst2
        have KB4 : Hid (Below w.heap.size w (wr.setCell ⟨w.heap.size, 0, none⟩ (.int .i64 ((trF xss p n 0 : Nat) : Int)))) := HB.out.setCell (Nat.le_refl _) _
        clear hst2 hst
        generalize trF xss p n 0 = T0 at *
        generalize maxF (rcF xss p n 0) 0 (Lp p 0 - 1) = mx at *
        go_wp2_with fail
        refine CM.out.mono ?_
        rintro e w4 ⟨rfl, rfl⟩
        go_wp2_with fail
        refine CI.out.mono ?_
        rintro e w5 ⟨rfl, rfl⟩
        go_wp2
        go_roundw
        case rel => exact ⟨1, by omega, by go_num, fun h => by omega, HST.out.1, KB4.out⟩
        case measure => simp [intOf]; omega
      | succ k =>
        have hn1 := HN.out k hlt
        have nf := near_box (d := trF xss p n k) (len := Lp p (k + 1)) hn1 hl.1
        have CN := Lib.hid (fun (wz : World) => c_nearDepths g (offT p (k + 1)) (Lp p (k + 1)) (Lp p (k + 1)) (trF xss p n k) wz hn1 hl.1 (Nat.le_refl _) (by omega) (by omega))
        have hcell : ∀ wz, Below w.heap.size w wz → ∀ j, j < cnN (trF xss p n k) (Lp p (k + 1)) → wz.cell? ⟨g, offT p (k + 1) + loN (trF xss p n k) + j, none⟩ = some (.int .i64 (rcF xss p n (k + 1) (loN (trF xss p n k) + j))) := fun wz hb j hj => by
          rw [Nat.add_assoc]
          exact HC.out (k + 1) _ wz hlt (by omega) hb
        have CM : Hid (∀ wz, Below w.heap.size w wz → Calls Try.prog 83 #[.slice (some ⟨g, offT p (k + 1) + loN (trF xss p n k), none⟩) (cnN (trF xss p n k) (Lp p (k + 1))) (cnN (trF xss p n k) (Lp p (k + 1)))] wz fun e w' => e = .returned (.int .i64 (maxF (rcF xss p n (k + 1)) (loN (trF xss p n k)) (cnN (trF xss p n k) (Lp p (k + 1)) - 1))) ∧ wz = w') := fun wz hb => by
          have := c_MaxF g (offT p (k + 1) + loN (trF xss p n k)) (cnN (trF xss p n k) (Lp p (k + 1))) (cnN (trF xss p n k) (Lp p (k + 1))) (fun j => rcF xss p n (k + 1) (loN (trF xss p n k) + j)) wz nf.1 (by omega) (hcell wz hb)
          rw [maxF_shift] at this
          exact this
        have IA := HAs.out k
        obtain ⟨a, ha⟩ : ∃ a, trF xss p n (k + 1) = loN (trF xss p n k) + a := ⟨trF xss p n (k + 1) - loN (trF xss p n k), by have := IA.1; omega⟩
        have CI : Hid (∀ wz, Below w.heap.size w wz → Calls Try.prog 82 #[.slice (some ⟨g, offT p (k + 1) + loN (trF xss p n k), none⟩) (cnN (trF xss p n k) (Lp p (k + 1))) (cnN (trF xss p n k) (Lp p (k + 1))), .int .i64 (maxF (rcF xss p n (k + 1)) (loN (trF xss p n k)) (cnN (trF xss p n k) (Lp p (k + 1)) - 1))] wz fun e w' => e = .returned (.int .i64 (a : Int)) ∧ wz = w') := fun wz hb =>
          c_IndexF g (offT p (k + 1) + loN (trF xss p n k)) (cnN (trF xss p n k) (Lp p (k + 1))) (cnN (trF xss p n k) (Lp p (k + 1))) a (fun j => rcF xss p n (k + 1) (loN (trF xss p n k) + j)) _ wz nf.1 (by omega) (hcell wz hb) (by have := IA.2.1; omega) (by rw [← ha]; exact IA.2.2.1) (fun j hj => IA.2.2.2 _ (by omega) (by omega))
        have hsum : ((loN (trF xss p n k) : Nat) : Int) + (a : Int) = ((trF xss p n (k + 1) : Nat) : Int) := by omega
        have hsm : loN (trF xss p n k) + a ≤ 1000 := by have := IA.2.1; omega
        clear IA hcell hst
        have hbl := HB.out.size
        have r0 : Hid (∀ wz, Below wr.heap.size wr wz → Row wz w.heap.size (.slice (some ⟨w.heap.size, 0, none⟩) n n) (HF (k + 1))) := fun wz hb => HR.out.below hb
        have q1 := HS.out (k + 1) wr hlt HB.out
        have hbb : b < wr.heap.size := lt_of_cell q1
        obtain ⟨q2, q3⟩ := row_cl (HHl.out (k + 1) (by omega)) HR.out (show k < n by omega)
        rw [HHa.out k hlt] at q2
        have HS1 := Lib.hid (HHs.out (k + 1) hlt)
        have HSUM := Lib.hid hsum
        have HA2 := Lib.hid ha
        clear hsum ha
        generalize trF xss p n k = d at *
        generalize trF xss p n (k + 1) = d' at *
        have b1 : (0 : Int) ≤ (k : Int) := by omega
        have b2 : (k : Int) < (n : Int) := by omega
        have b3 : (0 : Int) < (k : Int) + 1 := by omega
        have b4 : (k : Int) + 1 < (n : Int) := by omega
        have b5 : ((k : Int) + 1).toNat = k + 1 := by omega
        have e1 : IntKind.i64.wrap (k : Int) = (k : Int) := IntWalk.i64_in _ (by omega)
        go_wp2_with fail
        refine wp_region_grow (by kernel_rfl) (by kernel_rfl) ?_
        repeat (go_big_quiet_step ((go_at_call 66; exact grow_of (CN.out _))))
        refine wpQuiet_nil ?_
        intro _ hw'
        obtain ⟨v, hw''⟩ := hw'
        subst hw''
        have hb2 := wOf_below wr v
        generalize wOf wr v = w2 at hb2 ⊢
        have HB2 : Hid (Below w.heap.size w w2) := HB.out.trans (hb2.mono HB.out.size)
        have HR2 := Lib.hid (r0.out _ hb2)
        clear hb2 q1 q2 q3
        have f1 := row_fz (HHl.out (k + 1) (by omega)) HR2.out (k + 1)
        obtain ⟨f2, f3⟩ := row_cl (HHl.out (k + 1) (by omega)) HR2.out hlt
        have hst2 := Row.set_ (HHl.out (k + 1) (by omega)).symm HR2.out (k + 1) (((loN d : Nat) : Int) + (a : Int))
        rw [HSUM.out] at hst2
        rw [HS1.out, ← HSUM.out] at hst2
        have HST := Lib.hid hst2
        have KB4 : Hid (Below w.heap.size w (w2.setCell ⟨w.heap.size, k + 1, none⟩ (.int .i64 (((loN d : Nat) : Int) + (a : Int))))) := HB2.out.setCell (Nat.le_refl _) _
        clear hst2
        go_wp2_with fail
        refine (CM.out _ HB2.out).mono ?_
        rintro e w4 ⟨rfl, rfl⟩
        go_wp2_with fail
        refine (CI.out _ HB2.out).mono ?_
        rintro e w5 ⟨rfl, rfl⟩
        go_wp2
        go_roundw
        case rel => exact ⟨k + 1 + 1, by omega, by go_num, fun h => by omega, HST.out.1, KB4.out⟩
        case measure => simp [intOf]; omega
    · obtain rfl : k = n := by omega
      rw [HHe.out] at HR
      go_wp2
      go_ret
      exact ⟨_, rfl, HR.out, HB.out⟩
end Go.Proofs.Ytmkbjkmpincogaa

namespace Go.Proofs.Ytmkbjkmpincogaa
open Go.RowKit
set_option linter.unusedVariables false

/-- A list, a number and a bool. -/
def GivesRI (w : World) (xs : List Int) (a : Int) (b : Bool) (e : Ending) (w' : World) : Prop := ∃ v, e = .returned (.tuple #[v, .int .i64 a, .bool b]) ∧ Row w' w.heap.size v xs ∧ Below w.heap.size w w'
theorem sd_full (xss : List (List Int)) : sdB xss (fullP xss) = secB xss := by
  cases h : secB xss
  · unfold sdB; rw [h]; rfl
  · exact full_sd h

set_option maxHeartbeats 2000000 in
theorem c_BestBelow (xss : List (List Int)) (p : List Int) (v u : Value) (w : World) (hl : ShortL xss) (hl2 : p.length ≤ 4000000) (h : SeenC w v xss) (hp : Seen w u p) :
    Calls Try.prog 31 #[v, u] w (GivesRI w (bbL xss p) (bbV xss p) (sdB xss p)) := by
  have H1 := Lib.hid (c_GreatestProfile xss p v u w hl hl2 h.seen hp)
  unfold bbL bbV
  cases hs : sdB xss p
  · rw [hs] at H1
    obtain ⟨A', c', rfl, _⟩ := h.seen.shape
    obtain ⟨A, c, rfl⟩ := hp.shape
    clear h hp
    generalize lpL fMin xss p = R at *
    go_enter Try.func31, Try.ntmps31
    go_wp2_with fail
    refine H1.out.mono ?_
    rintro e w1 ⟨q, rfl, hr, hb⟩
    have HB := Lib.hid hb
    clear hr hb
    go_wp2
    go_ret3
    exact ⟨_, rfl, Row.nil _ _, HB.out⟩
  · have S := (sd_yes hs).2.1
    have hq := lim_fit hs
    have el : lpL fMin xss p = fitL fMin p := if_pos hs
    rw [hs, el] at H1
    simp only [if_true]
    have H2 : Hid (∀ (v2 : Value) (B : Nat) (w' : World), Below w.heap.size w w' → Row w' B v2 (fitL fMin p) → Calls Try.prog 58 #[v, v2] w' fun e w'' => ∃ b g ys, e = .returned (.slice (some ⟨b, 0, none⟩) xss.length xss.length) ∧ Tab w'' w'.heap.size b g (fitL fMin p) xss.length xss.length ys ∧ ResTo xss (fitL fMin p) xss.length xss.length ys ∧ Below w'.heap.size w' w'') := fun v2 B w' hb hr => c_restTable xss (fitL fMin p) _ _ v v2 w' S hq (h.below hb) hr.seen
    have H3 : Hid (∀ (b g B : Nat) (ys : List Int) (w' : World), Tab w' B b g (fitL fMin p) xss.length xss.length ys → ResTo xss (fitL fMin p) xss.length xss.length ys → Calls Try.prog 57 #[.slice (some ⟨b, 0, none⟩) xss.length xss.length] w' (GivesRow w' (trL xss (fitL fMin p) xss.length))) := fun b g B ys w' ht hr => c_firstBest xss (fitL fMin p) _ _ B b g ys w' S hq ht hr
    have H4 : Hid (∀ (v2 : Value) (B : Nat) (w' : World), Below w.heap.size w w' → Row w' B v2 (trL xss (fitL fMin p) xss.length) → Calls Try.prog 51 #[v, v2] w' fun e w'' => e = .returned (.int .i64 (worS xss (trL xss (fitL fMin p) xss.length) xss.length)) ∧ w' = w'') := fun v2 B w' hb hr => c_worthOfProfile xss _ _ _ v v2 w' S (trL_pro S hq) (h.below hb) hr.seen
    obtain ⟨A', c', rfl, _⟩ := h.seen.shape
    obtain ⟨A, c, rfl⟩ := hp.shape
    clear h hp S hq el hs hl
    generalize worS xss (trL xss (fitL fMin p) xss.length) xss.length = V at *
    generalize trL xss (fitL fMin p) xss.length = TL at *
    generalize fitL fMin p = q at *
    go_enter Try.func31, Try.ntmps31
    go_wp2_with fail
    refine H1.out.mono ?_
    rintro e w1 ⟨v1, rfl, hr, hb⟩
    have HB := Lib.hid hb
    have HR := Lib.hid hr
    obtain ⟨A1, c1, rfl⟩ := hr.shape
    clear hr hb
    go_wp2_with fail
    refine (H2.out _ _ _ HB.out HR.out).mono ?_
    rintro e w2 ⟨b, g, ys, rfl, ht, hR, hb⟩
    have HB2 : Hid (Below w.heap.size w w2) := HB.out.trans (hb.mono HB.out.size)
    have HT := Lib.hid ht
    have HRR := Lib.hid hR
    clear ht hR hb
    go_wp2_with fail
    refine (H3.out _ _ _ _ _ HT.out HRR.out).mono ?_
    rintro e w3 ⟨v3, rfl, hr, hb⟩
    have HB3 : Hid (Below w.heap.size w w3) := HB2.out.trans (hb.mono HB2.out.size)
    have HR3 : Hid (Row w3 w.heap.size v3 TL) := hr.mono HB2.out.size
    obtain ⟨A3, c3, rfl⟩ := hr.shape
    clear hr hb
    go_wp2_with fail
    refine (H4.out _ _ _ HB3.out HR3.out).mono ?_
    rintro e w4 ⟨rfl, rfl⟩
    go_wp2
    go_ret3
    exact ⟨_, rfl, HR3.out, HB3.out⟩

set_option maxHeartbeats 2000000 in
theorem c_BestProfile (xss : List (List Int)) (v : Value) (w : World) (hl : ShortL xss) (h : SeenC w v xss) :
    Calls Try.prog 26 #[v] w (GivesRI w (bbL xss (fullP xss)) (bbV xss (fullP xss)) (secB xss)) := by
  have H1 := Lib.hid (c_IsSection xss v w hl h.seen)
  cases hs : secB xss
  · rw [hs] at H1
    have e : sdB xss (fullP xss) = false := by rw [sd_full, hs]
    unfold bbL bbV
    rw [e]
    obtain ⟨A', c', rfl, _⟩ := h.seen.shape
    clear h e
    go_enter Try.func26, Try.ntmps26
    go_wp2_with fail
    refine H1.out.mono ?_
    rintro e w1 ⟨rfl, rfl⟩
    go_wp2
    go_ret3
    exact ⟨_, rfl, Row.nil _ _, Below.refl _ _⟩
  · rw [hs] at H1
    have e : sdB xss (fullP xss) = true := full_sd hs
    have S := sec_yes hs
    have H2 : Hid (∀ (v2 : Value) (B : Nat) (w' : World), Below w.heap.size w w' → Row w' B v2 (List.replicate xss.length ((depD xss : Nat) : Int)) → Calls Try.prog 31 #[v, v2] w' (GivesRI w' (bbL xss (fullP xss)) (bbV xss (fullP xss)) true)) := fun v2 B w' hb hr => by
      have := c_BestBelow xss (fullP xss) v v2 w' hl (by unfold fullP; rw [List.length_replicate]; have := S.n2; omega) (h.below hb) hr.seen
      rw [e] at this
      exact this
    obtain ⟨A', c', rfl, _⟩ := h.seen.shape
    obtain ⟨b0, off0, A0, c0, rfl, q0⟩ := h.seen.col0 (by have := S.n1; omega)
    have HB0 : Hid (Below w.heap.size w (w.alloc (.cells #[.int .i64 (depD xss : Nat)] 3))) := (Below.refl _ _).alloc (Nat.le_refl _) _
    have CR : Hid (Calls Try.prog 54 #[.slice (some ⟨w.heap.size, 0, none⟩) 1 1, .int .i64 xss.length] (w.alloc (.cells #[.int .i64 (depD xss : Nat)] 3)) (GivesRow (w.alloc (.cells #[.int .i64 (depD xss : Nat)] 3)) (List.replicate xss.length ((depD xss : Nat) : Int)))) := c_Repeat _ xss.length w.heap.size (w.alloc (.cells #[.int .i64 (depD xss : Nat)] 3)) S.n1 (by have := S.n2; omega) (by simp) (by simp)
    have d3 : (0 : Int) < (xss.length : Int) := by have := S.n1; omega
    clear h S e hl hs
    generalize bbL xss (fullP xss) = R1 at *
    generalize bbV xss (fullP xss) = R2 at *
    generalize List.replicate xss.length ((depD xss : Nat) : Int) = R3 at *
    generalize depD xss = D at *
    generalize xss.length = n at *
    go_enter Try.func26, Try.ntmps26
    go_wp2_with fail
    refine H1.out.mono ?_
    rintro e w1 ⟨rfl, rfl⟩
    go_wp2_with fail
    refine CR.out.mono ?_
    rintro e w2 ⟨v2, rfl, hr, hb⟩
    have HB2 : Hid (Below w.heap.size w w2) := HB0.out.trans (hb.mono (by simp))
    have HR2 := Lib.hid hr
    obtain ⟨A3, c3, rfl⟩ := hr.shape
    clear hr hb
    go_wp2_with fail
    refine (H2.out _ _ _ HB2.out HR2.out).mono ?_
    rintro e w3 ⟨v3, rfl, hr, hb⟩
    have HB3 : Hid (Below w.heap.size w w3) := HB2.out.trans (hb.mono HB2.out.size)
    have HR3 := Lib.hid (hr.mono HB2.out.size)
    clear hr hb
    go_wp2
    go_ret3
    exact ⟨_, rfl, HR3.out, HB3.out⟩
end Go.Proofs.Ytmkbjkmpincogaa

namespace Go.Proofs.Ytmkbjkmpincogaa
open Go.RowKit
set_option linter.unusedVariables false

theorem full_lim {xss : List (List Int)} (h : secB xss = true) : Lim (fullP xss) xss.length (depD xss) := by
  have := lim_fit (full_sd h)
  rwa [full_fit h] at this
theorem bb_len (xss : List (List Int)) (p : List Int) : (bbL xss p).length ≤ 4000000 := by
  unfold bbL
  split
  · rename_i h
    have S := (sd_yes h).2.1
    rw [trL_len]
    have := S.n2
    omega
  · simp

set_option maxHeartbeats 2000000 in
theorem c_BestBelowS (xss : List (List Int)) (p : List Int) (v u : Value) (w : World) (hl : ShortL xss) (hl2 : p.length ≤ 4000000) (h : SeenC w v xss) (hp : Seen w u p) :
    Calls Try.prog 30 #[v, u] w (GivesRI w (bbL xss p) (bbV xss p) (sdB xss p)) := by
  have H1 := Lib.hid (c_seGood xss v w hl h.seen)
  have H2 : Hid (secB xss = true → Calls Try.prog 55 #[v, u] w fun e w' => e = .returned (.bool (sdB xss p)) ∧ w = w') := fun hs => by
    have S := sec_yes hs
    unfold sdB
    rw [hs, Bool.true_and]
    exact c_seDepths xss p v u w (by have := S.n1; omega) hl2 h.seen hp
  have H4 : Hid (secB xss = false → sdB xss p = false) := fun h => by unfold sdB; rw [h]; rfl
  have H3 : Hid (sdB xss p = true → Calls Try.prog 56 #[u] w (GivesRow w (fitL fMin p))) := fun hs => by
    obtain ⟨_, _, _, h6, n1, n2⟩ := sd_yes hs
    exact c_seLower p u w n1 n2 h6 hp
  have H5 : Hid (sdB xss p = true → ∀ (v2 : Value) (B : Nat) (w' : World), Below w.heap.size w w' → Row w' B v2 (fitL fMin p) → Calls Try.prog 52 #[v, v2] w' fun e w'' => ∃ q, e = .returned (.tuple #[q, .int .i64 (worS xss (trL xss (fitL fMin p) xss.length) xss.length)]) ∧ Row w'' w'.heap.size q (trL xss (fitL fMin p) xss.length) ∧ Below w'.heap.size w' w'') := fun hs v2 B w' hb hr => by
    have S := (sd_yes hs).2.1
    have hq := lim_fit hs
    rw [tr_worth S hq]
    exact c_seBest xss (fitL fMin p) _ _ v v2 w' S hq (h.below hb) hr.seen
  obtain ⟨A', c', rfl, _⟩ := h.seen.shape
  obtain ⟨A, c, rfl⟩ := hp.shape
  unfold bbL bbV
  clear h hp hl hl2
  cases hz : secB xss
  · rw [hz] at H1
    rw [H4.out hz]
    clear H2 H3 H5 hz
    go_enter Try.func30, Try.ntmps30
    go_wp2_with fail
    refine H1.out.mono ?_
    rintro e w1 ⟨rfl, rfl⟩
    go_wp2
    go_ret3
    exact ⟨_, rfl, Row.nil _ _, Below.refl _ _⟩
  rw [hz] at H1
  have H6 := Lib.hid (H2.out hz)
  clear H2 H4 hz
  cases hs : sdB xss p
  · rw [hs] at H6
    clear H3 H5
    go_enter Try.func30, Try.ntmps30
    go_wp2_with fail
    refine H1.out.mono ?_
    rintro e w1 ⟨rfl, rfl⟩
    go_wp2_with fail
    refine H6.out.mono ?_
    rintro e w2 ⟨rfl, rfl⟩
    go_wp2
    go_ret3
    exact ⟨_, rfl, Row.nil _ _, Below.refl _ _⟩
  · rw [hs] at H6
    have H7 := Lib.hid (H3.out hs)
    have H8 := Lib.hid (H5.out hs)
    simp only [if_true]
    clear hs H3 H5
    generalize worS xss (trL xss (fitL fMin p) xss.length) xss.length = V at *
    generalize trL xss (fitL fMin p) xss.length = TL at *
    generalize fitL fMin p = q at *
    go_enter Try.func30, Try.ntmps30
    go_wp2_with fail
    refine H1.out.mono ?_
    rintro e w1 ⟨rfl, rfl⟩
    go_wp2_with fail
    refine H6.out.mono ?_
    rintro e w2 ⟨rfl, rfl⟩
    go_wp2_with fail
    refine H7.out.mono ?_
    rintro e w3 ⟨v3, rfl, hr, hb⟩
    have HB := Lib.hid hb
    have HR := Lib.hid hr
    obtain ⟨A1, c1, rfl⟩ := hr.shape
    clear hr hb
    go_wp2_with fail
    refine (H8.out _ _ _ HB.out HR.out).mono ?_
    rintro e w4 ⟨v4, rfl, hr, hb⟩
    have HB2 := Lib.hid (HB.out.trans (hb.mono HB.out.size))
    have HR2 := Lib.hid (hr.mono HB.out.size)
    clear hr hb
    go_wp2
    go_ret3
    exact ⟨_, rfl, HR2.out, HB2.out⟩

set_option maxHeartbeats 2000000 in
theorem c_BestProfileS (xss : List (List Int)) (v : Value) (w : World) (hl : ShortL xss) (h : SeenC w v xss) :
    Calls Try.prog 25 #[v] w (GivesRI w (bbL xss (fullP xss)) (bbV xss (fullP xss)) (secB xss)) := by
  have H1 := Lib.hid (c_seGood xss v w hl h.seen)
  have H2 : Hid (secB xss = true → Calls Try.prog 53 #[v] w (GivesRow w (fullP xss))) := fun hs => c_seFull xss _ _ v w (sec_yes hs) h.seen
  have H5 : Hid (secB xss = true → ∀ (v2 : Value) (B : Nat) (w' : World), Below w.heap.size w w' → Row w' B v2 (fullP xss) → Calls Try.prog 52 #[v, v2] w' fun e w'' => ∃ q, e = .returned (.tuple #[q, .int .i64 (bbV xss (fullP xss))]) ∧ Row w'' w'.heap.size q (bbL xss (fullP xss)) ∧ Below w'.heap.size w' w'') := fun hs v2 B w' hb hr => by
    have S := sec_yes hs
    have hq := full_lim hs
    unfold bbV bbL
    rw [full_sd hs, full_fit hs]
    simp only [if_true]
    rw [tr_worth S hq]
    exact c_seBest xss (fullP xss) _ _ v v2 w' S hq (h.below hb) hr.seen
  have H4 : Hid (secB xss = false → bbV xss (fullP xss) = 0 ∧ bbL xss (fullP xss) = []) := fun hs => by
    unfold bbV bbL
    rw [sd_full, hs]
    exact ⟨rfl, rfl⟩
  obtain ⟨A', c', rfl, _⟩ := h.seen.shape
  clear h hl
  cases hz : secB xss
  · rw [hz] at H1
    obtain ⟨e1, e2⟩ := H4.out hz
    rw [e1, e2]
    clear H2 H5 H4 hz e1 e2
    go_enter Try.func25, Try.ntmps25
    go_wp2_with fail
    refine H1.out.mono ?_
    rintro e w1 ⟨rfl, rfl⟩
    go_wp2
    go_ret3
    exact ⟨_, rfl, Row.nil _ _, Below.refl _ _⟩
  · rw [hz] at H1
    have H7 := Lib.hid (H2.out hz)
    have H8 := Lib.hid (H5.out hz)
    clear hz H2 H5 H4
    generalize bbV xss (fullP xss) = V at *
    generalize bbL xss (fullP xss) = TL at *
    generalize fullP xss = q at *
    go_enter Try.func25, Try.ntmps25
    go_wp2_with fail
    refine H1.out.mono ?_
    rintro e w1 ⟨rfl, rfl⟩
    go_wp2_with fail
    refine H7.out.mono ?_
    rintro e w3 ⟨v3, rfl, hr, hb⟩
    have HB := Lib.hid hb
    have HR := Lib.hid hr
    obtain ⟨A1, c1, rfl⟩ := hr.shape
    clear hr hb
    go_wp2_with fail
    refine (H8.out _ _ _ HB.out HR.out).mono ?_
    rintro e w4 ⟨v4, rfl, hr, hb⟩
    have HB2 := Lib.hid (HB.out.trans (hb.mono HB.out.size))
    have HR2 := Lib.hid (hr.mono HB.out.size)
    clear hr hb
    go_wp2
    go_ret3
    exact ⟨_, rfl, HR2.out, HB2.out⟩
end Go.Proofs.Ytmkbjkmpincogaa
