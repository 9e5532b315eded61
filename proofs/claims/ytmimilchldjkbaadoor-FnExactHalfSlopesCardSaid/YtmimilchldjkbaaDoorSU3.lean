/-
  Contracts: HalfSlopes, in the model and in the program.
-/
import Derived.Test.YtmimilchldjkbaaDoorSU2
import Derived.Test.YtmimilchldjkbaaDoorGrow
namespace Go.Proofs.YtmimilchldjkbaaDoor
open Go.RowKit
set_option linter.unusedVariables false

def hsB (x y z a b : Int) : Bool := goodB x y z && (tofB a && tofB b)
/-- The sector of place k. -/
def hsV (x : Int) (k : Nat) : Int := if (k : Int) % x < x / 2 then 0 else 1
def hsL (x : Int) (m : Nat) : List Int := (List.range m).map (hsV x)
theorem hsL_len (x : Int) (m : Nat) : (hsL x m).length = m := by simp [hsL]
theorem hsL_at (x : Int) {m k : Nat} (h : k < m) : (hsL x m).getD k 0 = hsV x k := by simp [hsL, h]
theorem hsL_go (x : Int) (k : Nat) : hsL x (k + 1) = hsL x k ++ [hsV x k] := by simp [hsL, List.range_succ]
def hsS (x y z a b : Int) : List Int := if hsB x y z a b then hsL x (x * y).toNat else []
def hsT (x y z a b : Int) : List (List Int) := if hsB x y z a b then [stdX a.toNat, stdX b.toNat] else []
theorem hs_no {x y z a b : Int} (h : hsB x y z a b = false) : hsS x y z a b = [] ∧ hsT x y z a b = [] := by unfold hsS hsT; rw [h]; simp
theorem hs_yes {x y z a b : Int} (h : hsB x y z a b = true) : hsS x y z a b = hsL x (x * y).toNat ∧ hsT x y z a b = [stdX a.toNat, stdX b.toNat] := by unfold hsS hsT; rw [h]; simp
theorem half_same (xs : List Int) (j : Nat) (h : j < xs.length) (h0 : xs.getD j 0 = 0) : half xs (j + 1) = half xs j := by
  rw [← half_set xs j h, h0]
  apply List.ext_getElem
  · simp
  · intro i h1 h2
    rw [List.getElem_set]
    split
    · rename_i e
      subst e
      simp [half, List.getElem_append, show ¬ j < min j xs.length by omega]
    · rfl
/-- Two lists of offsets in a literal. -/
theorem rowsO_two {w : World} {B U : Nat} {p q : Value} {ys zs : List Int} (hp : RowO w B p ys) (hq : RowO w B q zs) (hB : B ≤ w.heap.size) (pu : ∀ k, p.ownBlock = some k → k < U) (qu : ∀ k, q.ownBlock = some k → U ≤ k) :
    RowsO (w.alloc (.cells #[p, q] 70)) B (w.alloc (.cells #[p, q] 70)).heap.size (.slice (some ⟨w.heap.size, 0, none⟩) 2 2) [ys, zs] := by
  have ho := World.ownsRow_lit (base := B) (e := 70) (size := 1) w #[p, q] 2 hB (by unfold maxLen; omega) (by simp)
  have hr : RowO (w.alloc (.cells #[p, q] 70)) B p ys := RowO.below hp ((Below.refl _ _).alloc (Nat.le_refl _) _)
  have hs : RowO (w.alloc (.cells #[p, q] 70)) B q zs := RowO.below hq ((Below.refl _ _).alloc (Nat.le_refl _) _)
  have hap : Apart p.ownBlock q.ownBlock := by
    cases e : p.ownBlock with
    | none => exact .inl rfl
    | some k => exact .inr fun e' => by have := pu k e; have := qu k e'.symm; omega
  refine ⟨[p, q], rfl, ho, fun k hk => (World.ownsRow.lt ho k hk).2, fun i hi => ?_, fun i k hi hk => ?_, fun i j hi hj hne => ?_⟩
  · match i, hi with
    | 0, _ => exact hr
    | 1, _ => exact hs
  · match i, hi with
    | 0, _ => exact (World.ownsRow.lt hr k hk).2
    | 1, _ => exact (World.ownsRow.lt hs k hk).2
  · match i, j, hi, hj with
    | 0, 0, _, _ => exact absurd rfl hne
    | 0, 1, _, _ => exact hap
    | 1, 0, _, _ => exact hap.symm
    | 1, 1, _, _ => exact absurd rfl hne
set_option maxRecDepth 20000 in
theorem hs_box {x y z a b : Int} : (hsS x y z a b).length ≤ 1000 ∧ (hsT x y z a b).length ≤ 4 ∧ totN (hsT x y z a b) (hsT x y z a b).length ≤ 1000 ∧ Short3 (hsT x y z a b) := by
  cases h : hsB x y z a b
  · obtain ⟨e1, e2⟩ := hs_no h
    rw [e1, e2]
    exact ⟨by simp, by simp, by simp [totN], fun i hi => by simp at hi⟩
  · obtain ⟨e1, e2⟩ := hs_yes h
    unfold hsB at h
    rw [Bool.and_eq_true] at h
    obtain ⟨x1, x2, y1, y2, z1, z2, p1, p2, q1, q2⟩ := good_box h.1
    have h3 : ∀ k, (stdX k).length ≤ 27 := fun k => by
      have := stdN_box k
      unfold stdX
      rw [flat3_len]
      omega
    have ha := h3 a.toNat
    have hb := h3 b.toNat
    rw [e1, e2]
    refine ⟨by rw [hsL_len]; omega, by simp, ?_, fun i hi => ?_⟩
    · show 0 + (stdX a.toNat).length + (stdX b.toNat).length ≤ 1000
      omega
    · match i, hi with
      | 0, _ => show (stdX a.toNat).length ≤ 3145730; omega
      | 1, _ => show (stdX b.toNat).length ≤ 3145730; omega
theorem HeadS.under {w W W' : World} {x y z : Int} {N : Nat} (h : HeadS w W x y z) (hb : Below N W W') (hN : w.heap.size + 2 ≤ N) : HeadS w W' x y z :=
  ⟨h.g.under hb (by omega), h.s.under hb (by omega), h.b.trans (hb.mono (by omega)), Nat.le_trans h.l hb.size⟩

set_option maxHeartbeats 8000000 in
set_option maxRecDepth 100000 in
theorem c_HalfSlopesS (x y z a b : Int) (w : World) :
    Calls Tryd.prog 16 #[.agg #[.int .i64 x, .int .i64 y, .int .i64 z], .int .i64 a, .int .i64 b] w (GivesS2 w (hsS x y z a b) (hsT x y z a b) (hsB x y z a b)) := by
  have CG : Hid (∀ u, Calls Tryd.prog 38 #[.agg #[.int .i64 x, .int .i64 y, .int .i64 z]] u fun e w' => e = .returned (.bool (goodB x y z)) ∧ Below u.heap.size u w') := fun u => c_grGood x y z u
  have CA : Hid (∀ u, Calls Tryd.prog 39 #[.int .i64 a, .int .i64 1, .int .i64 4] u fun e w' => e = .returned (.bool (tofB a)) ∧ u = w') := fun u => c_l1In a 1 4 u
  have CB : Hid (∀ u, Calls Tryd.prog 39 #[.int .i64 b, .int .i64 1, .int .i64 4] u fun e w' => e = .returned (.bool (tofB b)) ∧ u = w') := fun u => c_l1In b 1 4 u
  have H0 := Lib.hid (HeadS.of w x y z)
  cases hg : goodB x y z
  · obtain ⟨e1, e2⟩ := hs_no (show hsB x y z a b = false by unfold hsB; rw [hg]; simp)
    rw [e1, e2, show hsB x y z a b = false by unfold hsB; rw [hg]; simp]
    clear e1 e2
    rw [hg] at CG
    clear hg
    go_enter Tryd.func16, Tryd.ntmps16
    go_wp2_with fail
    generalize ((w.alloc (.cells #[.int .i64 x, .int .i64 y, .int .i64 z] 30)).alloc (.cells #[.slice none 0 0, .slice none 0 0] 27)) = W0 at *
    have z0 := H0.out.g.c0
    have z1 := H0.out.g.c1
    have z2 := H0.out.g.c2
    have z3 := H0.out.g.lt
    refine (CG.out _).mono ?_
    rintro e w1 ⟨rfl, hb⟩
    have H1 := Lib.hid (H0.out.below hb)
    clear hb
    have y0 := H1.out.s.c0
    have y1 := H1.out.s.c1
    have y2 := H1.out.s.f 0
    have y3 := H1.out.s.f 1
    have y4 := H1.out.s.lt
    have HN := Lib.hid H1.out.nil_
    go_wp2
    generalize ((w1.setCell ⟨w.heap.size + 1, 0, none⟩ (.slice none 0 0)).setCell ⟨w.heap.size + 1, 1, none⟩ (.slice none 0 0)) = we at *
    obtain ⟨P1, P2, P3⟩ := HN.out
    have f0 := P2.c0
    have f1 := P2.c1
    refine bodyPost_ret (v := .tuple #[.agg #[.slice none 0 0, .slice none 0 0], .bool false]) (by simp [results, Tryd.results16, go_sem, f0, f1]) rfl ⟨_, _, rfl, P1, P3⟩
  cases ha : tofB a
  · obtain ⟨e1, e2⟩ := hs_no (show hsB x y z a b = false by unfold hsB; rw [ha]; simp)
    rw [e1, e2, show hsB x y z a b = false by unfold hsB; rw [ha]; simp]
    clear e1 e2
    rw [hg] at CG
    rw [ha] at CA
    clear hg ha
    go_enter Tryd.func16, Tryd.ntmps16
    go_wp2_with fail
    generalize ((w.alloc (.cells #[.int .i64 x, .int .i64 y, .int .i64 z] 30)).alloc (.cells #[.slice none 0 0, .slice none 0 0] 27)) = W0 at *
    have z0 := H0.out.g.c0
    have z1 := H0.out.g.c1
    have z2 := H0.out.g.c2
    have z3 := H0.out.g.lt
    refine (CG.out _).mono ?_
    rintro e w1 ⟨rfl, hb⟩
    have H1 := Lib.hid (H0.out.below hb)
    clear hb
    go_wp2_with fail
    refine (CA.out _).mono ?_
    rintro e w2 ⟨rfl, rfl⟩
    have y0 := H1.out.s.c0
    have y1 := H1.out.s.c1
    have y2 := H1.out.s.f 0
    have y3 := H1.out.s.f 1
    have y4 := H1.out.s.lt
    have HN := Lib.hid H1.out.nil_
    go_wp2
    generalize ((w1.setCell ⟨w.heap.size + 1, 0, none⟩ (.slice none 0 0)).setCell ⟨w.heap.size + 1, 1, none⟩ (.slice none 0 0)) = we at *
    obtain ⟨P1, P2, P3⟩ := HN.out
    have f0 := P2.c0
    have f1 := P2.c1
    refine bodyPost_ret (v := .tuple #[.agg #[.slice none 0 0, .slice none 0 0], .bool false]) (by simp [results, Tryd.results16, go_sem, f0, f1]) rfl ⟨_, _, rfl, P1, P3⟩
  cases hb0 : tofB b
  · obtain ⟨e1, e2⟩ := hs_no (show hsB x y z a b = false by unfold hsB; rw [hb0]; simp)
    rw [e1, e2, show hsB x y z a b = false by unfold hsB; rw [hb0]; simp]
    clear e1 e2
    rw [hg] at CG
    rw [ha] at CA
    rw [hb0] at CB
    clear hg ha hb0
    go_enter Tryd.func16, Tryd.ntmps16
    go_wp2_with fail
    generalize ((w.alloc (.cells #[.int .i64 x, .int .i64 y, .int .i64 z] 30)).alloc (.cells #[.slice none 0 0, .slice none 0 0] 27)) = W0 at *
    have z0 := H0.out.g.c0
    have z1 := H0.out.g.c1
    have z2 := H0.out.g.c2
    have z3 := H0.out.g.lt
    refine (CG.out _).mono ?_
    rintro e w1 ⟨rfl, hb⟩
    have H1 := Lib.hid (H0.out.below hb)
    clear hb
    go_wp2_with fail
    refine (CA.out _).mono ?_
    rintro e w2 ⟨rfl, rfl⟩
    go_wp2_with fail
    refine (CB.out _).mono ?_
    rintro e w2 ⟨rfl, rfl⟩
    have y0 := H1.out.s.c0
    have y1 := H1.out.s.c1
    have y2 := H1.out.s.f 0
    have y3 := H1.out.s.f 1
    have y4 := H1.out.s.lt
    have HN := Lib.hid H1.out.nil_
    go_wp2
    generalize ((w1.setCell ⟨w.heap.size + 1, 0, none⟩ (.slice none 0 0)).setCell ⟨w.heap.size + 1, 1, none⟩ (.slice none 0 0)) = we at *
    obtain ⟨P1, P2, P3⟩ := HN.out
    have f0 := P2.c0
    have f1 := P2.c1
    refine bodyPost_ret (v := .tuple #[.agg #[.slice none 0 0, .slice none 0 0], .bool false]) (by simp [results, Tryd.results16, go_sem, f0, f1]) rfl ⟨_, _, rfl, P1, P3⟩
  obtain ⟨e1, e2⟩ := hs_yes (show hsB x y z a b = true by unfold hsB; rw [hg, ha, hb0]; rfl)
  rw [e1, e2, show hsB x y z a b = true by unfold hsB; rw [hg, ha, hb0]; rfl]
  rw [hg] at CG
  rw [ha] at CA
  rw [hb0] at CB
  obtain ⟨a1, a2⟩ := of_decide_eq_true ha
  obtain ⟨b1, b2⟩ := of_decide_eq_true hb0
  obtain ⟨ka, rfl⟩ := Int.eq_ofNat_of_zero_le (show 0 ≤ a by omega)
  obtain ⟨kb, rfl⟩ := Int.eq_ofNat_of_zero_le (show 0 ≤ b by omega)
  rw [Int.toNat_natCast, Int.toNat_natCast]
  have CP := Lib.hid (fun u => c_slStandard ka u (by omega) (by omega))
  have CQ := Lib.hid (fun u => c_slStandard kb u (by omega) (by omega))
  obtain ⟨x1, x2, y1, y2, z1, z2, p1, p2, q1, q2⟩ := good_box hg
  obtain ⟨m, hm⟩ := Int.eq_ofNat_of_zero_le p1
  have hm2 : m ≤ 1000 := by omega
  rw [show (x * y).toNat = m by omega]
  have iw : IntKind.i64.wrap (x * y) = (m : Int) := by rw [← hm]; exact IntWalk.i64_in _ (by omega)
  have CX : Hid (∀ (k : Nat) u, k < m → Calls Tryd.prog 51 #[.agg #[.int .i64 x, .int .i64 y, .int .i64 z], .int .i64 k] u fun e w' => e = .returned (.int .i64 ((k : Int) % x)) ∧ Below u.heap.size u w') := fun k u hk => c_grX x y z k u x1 x2 (by omega) (by omega)
  have HGo : Hid (∀ k : Nat, hsL x (k + 1) = hsL x k ++ [if (k : Int) % x < x / 2 then 0 else 1]) := hsL_go x
  have HLe : Hid (∀ k, (hsL x k).length = k) := hsL_len x
  have HZe : Hid (hsL x 0 = []) := rfl
  obtain ⟨i0, hi0, hz0, hz1, hz2⟩ := info_parts int_info
  have HI := Lib.hid hi0
  have hx2 : 0 ≤ x / 2 ∧ x / 2 ≤ 4 := by omega
  clear e1 e2 hg ha hb0 a1 a2 b1 b2 y1 y2 z1 z2 p1 p2 q1 q2 hm hi0
  generalize stdX ka = X at *
  generalize stdX kb = Y at *
  generalize stdN ka = nX at *
  generalize stdN kb = nY at *
  generalize hsL x = T at *
  go_enter Tryd.func16, Tryd.ntmps16
  go_wp2_with fail
  generalize ((w.alloc (.cells #[.int .i64 x, .int .i64 y, .int .i64 z] 30)).alloc (.cells #[.slice none 0 0, .slice none 0 0] 27)) = W0 at *
  have z0 := H0.out.g.c0
  have z1 := H0.out.g.c1
  have z2 := H0.out.g.c2
  have z3 := H0.out.g.lt
  refine (CG.out _).mono ?_
  rintro e w1 ⟨rfl, hb⟩
  have H1 := Lib.hid (H0.out.below hb)
  clear hb
  go_wp2_with fail
  refine (CA.out _).mono ?_
  rintro e w2 ⟨rfl, rfl⟩
  go_wp2_with fail
  refine (CB.out _).mono ?_
  rintro e w2 ⟨rfl, rfl⟩
  go_wp2_with fail
  clear z0 z1 z2 z3
  refine (CP.out _).mono ?_
  rintro e w2 ⟨p, rfl, hr, hb⟩
  obtain ⟨PA, pc, rfl⟩ := RowP.shape hr
  have HP2 := Lib.hid hr.rowO
  have H2 := Lib.hid (H1.out.below hb)
  have S2 := Lib.hid hb.size
  have L1 := Lib.hid H1.out.l
  have PU := Lib.hid (fun k (hk : (Value.slice PA nX pc).ownBlock = some k) => (World.ownsRow.lt hr k hk).2)
  clear hr hb
  go_wp2_with fail
  refine (CQ.out _).mono ?_
  rintro e w3 ⟨q, rfl, hr, hb⟩
  obtain ⟨QA, qc, rfl⟩ := RowP.shape hr
  have HQ3 := Lib.hid hr.rowO
  have HP3 := Lib.hid (HP2.out.below hb)
  have H3 := Lib.hid (H2.out.below hb)
  have S3 := Lib.hid (Nat.le_trans S2.out hb.size)
  have QU := Lib.hid (fun k (hk : (Value.slice QA nY qc).ownBlock = some k) => (World.ownsRow.lt hr k hk).1)
  have HT3 := Lib.hid (rowsO_two HP3.out (HQ3.out.mono S2.out) S3.out PU.out QU.out)
  clear hr hb
  have hbz : Below w3.heap.size w3 ((w3.alloc (.cells #[.slice PA nX pc, .slice QA nY qc] 70)).alloc (.cells #[.slice none 0 0, .slice (some ⟨w3.heap.size, 0, none⟩) 2 2] 27)) := below_two (Below.refl _ _) (Nat.le_refl _) _ _
  have H5 := Lib.hid (H3.out.below hbz)
  have HT5 : Hid (RowsO ((w3.alloc (.cells #[.slice PA nX pc, .slice QA nY qc] 70)).alloc (.cells #[.slice none 0 0, .slice (some ⟨w3.heap.size, 0, none⟩) 2 2] 27)) w1.heap.size (w3.heap.size + 1) (.slice (some ⟨w3.heap.size, 0, none⟩) 2 2) [X, Y]) := by
    have := HT3.out.below ((Below.refl _ _).alloc (Nat.le_refl _) (.cells #[.slice none 0 0, .slice (some ⟨w3.heap.size, 0, none⟩) 2 2] 27)) (Nat.le_refl _)
    simp at this
    exact this
  have HM5 : Hid (Mine2 ((w3.alloc (.cells #[.slice PA nX pc, .slice QA nY qc] 70)).alloc (.cells #[.slice none 0 0, .slice (some ⟨w3.heap.size, 0, none⟩) 2 2] 27)) (w3.heap.size + 1) (.slice none 0 0) (.slice (some ⟨w3.heap.size, 0, none⟩) 2 2)) := by
    have := Mine2.new (w3.alloc (.cells #[.slice PA nX pc, .slice QA nY qc] 70)) (.slice none 0 0) (.slice (some ⟨w3.heap.size, 0, none⟩) 2 2) 27
    simp at this
    exact this
  have L3 : Hid (w.heap.size + 2 ≤ w3.heap.size) := Nat.le_trans L1.out S3.out
  clear hbz
  go_wp2_with fail
  generalize ((w3.alloc (.cells #[.slice PA nX pc, .slice QA nY qc] 70)).alloc (.cells #[.slice none 0 0, .slice (some ⟨w3.heap.size, 0, none⟩) 2 2] 27)) = W5 at *
  generalize hL : w3.heap.size + 1 = L at *
  have LL : Hid (w.heap.size + 2 ≤ L ∧ w1.heap.size ≤ L) := ⟨by have := L3.out; omega, by have := S3.out; omega⟩
  clear L3 hL S3 S2 HT3 HP3 HQ3 HP2 H2 H3 PU QU
  go_loopw [9] (fun i wr => ∃ k : Nat, k ≤ m ∧ i = .int .i64 k ∧ HeadS w wr x y z ∧ RowsO wr w1.heap.size L (.slice (some ⟨w3.heap.size, 0, none⟩) 2 2) [X, Y] ∧ (∃ v1, Mine2 wr L v1 (.slice (some ⟨w3.heap.size, 0, none⟩) 2 2) ∧ Row wr (L + 1) v1 (T k)) ∧ L < wr.heap.size) (fun i _ => m - (intOf i).toNat)
  case atStart => exact ⟨0, Nat.zero_le _, rfl, H5.out, HT5.out, ⟨_, HM5.out, by rw [HZe.out]; exact Row.nil _ _⟩, HM5.out.lt⟩
  case round =>
    obtain ⟨k, hk, rfl, hh, ht, ⟨v1, hm, hr⟩, hl⟩ := hrel
    obtain ⟨VA, vc, hv⟩ := hr.shape
    have HH := Lib.hid hh
    have HT := Lib.hid ht
    have HM := Lib.hid hm
    have HR := Lib.hid hr
    have HLk := Lib.hid (HLe.out k)
    clear hh ht hm hr
    rw [HLk.out] at hv
    subst hv
    have g0 := HH.out.g.c0
    have g1 := HH.out.g.c1
    have g2 := HH.out.g.c2
    have g3 := HH.out.g.lt
    by_cases hlt : k < m
    · have c1 : (k : Int) < (m : Int) := by omega
      have CXk : Hid (∀ u, Calls Tryd.prog 51 #[.agg #[.int .i64 x, .int .i64 y, .int .i64 z], .int .i64 k] (wOf wr u) fun e w' => e = .returned (.int .i64 ((k : Int) % x)) ∧ Below (wOf wr u).heap.size (wOf wr u) w') := fun u => CX.out k _ hlt
      have iq : IntKind.i64.wrap (x / 2) = x / 2 := IntWalk.i64_in _ (by omega)
      have HGk := Lib.hid (HGo.out k)
      go_wp2_with fail
      refine wp_region_grow (by kernel_rfl) (by kernel_rfl) ?_
      repeat (go_big_quiet_step ((go_at_call 51; exact grow_of (CXk.out _))))
      refine wpQuiet_nil ?_
      intro _ hw'
      obtain ⟨u, hw''⟩ := hw'
      subst hw''
      have hb2 := wOf_below wr u
      generalize wOf wr u = w6 at hb2 ⊢
      have H6 := Lib.hid (HH.out.below hb2)
      have HT6 := Lib.hid (HT.out.below hb2 (Nat.le_of_lt hl))
      have HM6 := Lib.hid (HM.out.below hb2)
      have HR6 := Lib.hid (Row.below HR.out hb2)
      have hl6 : L < w6.heap.size := Nat.lt_of_lt_of_le hl hb2.size
      clear hb2 CXk g0 g1 g2 g3
      have m0 := HM6.out.c0
      have m1 := HM6.out.c1
      have m2 := HM6.out.f 0
      have m3 := HM6.out.lt
      have HSt : Hid (∀ (s : Int) (v' : Value) (w7 : World), T (k + 1) = T k ++ [s] → w7.ownsRow (L + 1) 3 1 v' (k + 1) (ints (T k) ++ ints [s]) → (w6.alloc (.cells #[.int .i64 s] 3)).grownBy w7 (Value.slice VA k vc).ownBlock → HeadS w (w7.setCell ⟨L, 0, none⟩ v') x y z ∧ RowsO (w7.setCell ⟨L, 0, none⟩ v') w1.heap.size L (.slice (some ⟨w3.heap.size, 0, none⟩) 2 2) [X, Y] ∧ (∃ v1, Mine2 (w7.setCell ⟨L, 0, none⟩ v') L v1 (.slice (some ⟨w3.heap.size, 0, none⟩) 2 2) ∧ Row (w7.setCell ⟨L, 0, none⟩ v') (L + 1) v1 (T (k + 1))) ∧ L < (w7.setCell ⟨L, 0, none⟩ v').heap.size ∧ Mine2 w7 L (.slice VA k vc) (.slice (some ⟨w3.heap.size, 0, none⟩) 2 2)) := fun s v' w7 hT ho hg => by
        have hr7 : Row w7 (L + 1) v' (T (k + 1)) := by rw [hT]; exact row_app (by rw [HLk.out]; rfl) ho
        have hb7 : Below (L + 1) w6 w7 := ((Below.refl _ _).alloc (by omega) _).grown hg (by simp; omega) (fun j hj => (World.ownsRow.lt HR6.out j hj).1)
        have hm7 := HM6.out.under hb7 (by omega)
        have hbs : Below L w7 (w7.setCell ⟨L, 0, none⟩ v') := (Below.refl _ _).setCell (p := ⟨L, 0, none⟩) (Nat.le_refl _) _
        refine ⟨(H6.out.under hb7 (by have := LL.out.1; omega)).under hbs LL.out.1, (HT6.out.below hb7 (by omega)).below hbs (Nat.le_refl _), ⟨v', hm7.set0 v', Row.put hr7 (by show L < L + 1; omega) _⟩, ?_, hm7⟩
        have := hm7.lt
        simpa using this
      have HTl := Lib.hid (HLe.out (k + 1))
      have HRr : Hid (w6.ownsRow (L + 1) 3 1 (.slice VA k vc) k (ints (T k))) := by
        have := HR6.out
        unfold Row at this
        rw [HLk.out] at this
        exact this
      by_cases hs : (k : Int) % x < x / 2
      · rw [if_pos hs] at HGk
        go_wp2_with (at_builtin; go_loud (refine wpList_append_src rfl _ _ 24 rfl (base := L + 1) Tryd.underlying24 HI.out hz0 hz1 hz2 rfl (by decide) rfl (World.ownsRow.alloc HRr.out _) rfl (src_one (x := 0) (by simp)) ints_ones ?c3 ?c4 ?c5 ?_))
        case c3 => unfold maxLen; omega
        case c4 => omega
        case c5 => first | (simp; omega) | omega
        intro v' w7 hown' hgrow _
        obtain ⟨E1, E2, E3, E4, E5⟩ := HSt.out 0 v' w7 HGk.out hown' hgrow
        obtain ⟨DA, dc, rfl⟩ : ∃ A c, v' = .slice A (k + 1) c := by
          rcases hown'.2 with ⟨_, h0⟩ | ⟨g, cap, cur, hv, _⟩
          · omega
          · exact ⟨_, _, hv⟩
        have K1 := Lib.hid E1
        have K2 := Lib.hid E2
        have K3 := Lib.hid E3
        have n0 := E5.c0
        have n1 := E5.f 0
        have n3 := E5.lt
        clear E1 E2 E3 E5 hown' hgrow
        go_wp2
        go_roundw
        case rel => exact ⟨k + 1, by omega, by go_num, K1.out, K2.out, K3.out, E4⟩
        case measure => first | (simp [intOf]; omega) | (simp only [intOf]; omega)
      · rw [if_neg hs] at HGk
        go_wp2_with (at_builtin; go_loud (refine wpList_append_src rfl _ _ 24 rfl (base := L + 1) Tryd.underlying24 HI.out hz0 hz1 hz2 rfl (by decide) rfl (World.ownsRow.alloc HRr.out _) rfl (src_one (x := 1) (by simp)) ints_ones ?c3 ?c4 ?c5 ?_))
        case c3 => unfold maxLen; omega
        case c4 => omega
        case c5 => first | (simp; omega) | omega
        intro v' w7 hown' hgrow _
        obtain ⟨E1, E2, E3, E4, E5⟩ := HSt.out 1 v' w7 HGk.out hown' hgrow
        obtain ⟨DA, dc, rfl⟩ : ∃ A c, v' = .slice A (k + 1) c := by
          rcases hown'.2 with ⟨_, h0⟩ | ⟨g, cap, cur, hv, _⟩
          · omega
          · exact ⟨_, _, hv⟩
        have K1 := Lib.hid E1
        have K2 := Lib.hid E2
        have K3 := Lib.hid E3
        have n0 := E5.c0
        have n1 := E5.f 0
        have n3 := E5.lt
        clear E1 E2 E3 E5 hown' hgrow
        go_wp2
        go_roundw
        case rel => exact ⟨k + 1, by omega, by go_num, K1.out, K2.out, K3.out, E4⟩
        case measure => first | (simp [intOf]; omega) | (simp only [intOf]; omega)
    · obtain rfl : k = m := by omega
      have HN := Lib.hid (HH.out.put (OwnS.of (HR.out.mono (by have := LL.out.2; omega)) (HT.out) (by omega)) L1.out)
      have m0 := HM.out.c0
      have m1 := HM.out.c1
      have m3 := HM.out.lt
      have y0 := HH.out.s.c0
      have y1 := HH.out.s.c1
      have y2 := HH.out.s.f 0
      have y3 := HH.out.s.f 1
      have y4 := HH.out.s.lt
      go_wp2
      generalize ((wr.setCell ⟨w.heap.size + 1, 0, none⟩ (.slice VA k vc)).setCell ⟨w.heap.size + 1, 1, none⟩ (.slice (some ⟨w3.heap.size, 0, none⟩) 2 2)) = we at *
      obtain ⟨P1, P2, P3⟩ := HN.out
      have f0 := P2.c0
      have f1 := P2.c1
      refine bodyPost_ret (v := .tuple #[.agg #[.slice VA k vc, .slice (some ⟨w3.heap.size, 0, none⟩) 2 2], .bool true]) (by simp [results, Tryd.results16, go_sem, f0, f1]) rfl ⟨_, _, rfl, P1, P3⟩

set_option maxHeartbeats 16000000 in
set_option maxRecDepth 100000 in
theorem c_HalfSlopes (x y z a b : Int) (w : World) (ht : TAB w) :
    Calls Tryd.prog 17 #[.agg #[.int .i64 x, .int .i64 y, .int .i64 z], .int .i64 a, .int .i64 b] w (GivesS2 w (hsS x y z a b) (hsT x y z a b) (hsB x y z a b)) := by
  have CG : Hid (∀ u, Calls Tryd.prog 42 #[.agg #[.int .i64 x, .int .i64 y, .int .i64 z]] u fun e w' => e = .returned (.bool (goodB x y z)) ∧ Below u.heap.size u w') := fun u => c_IsGrid x y z u
  have H0 := Lib.hid (HeadS.of w x y z)
  have CA : Hid (∀ u, Below w.heap.size w u → Calls Tryd.prog 41 #[.int .i64 a] u (GivesP2 u (tofN a) (tofX a) (tofB a))) := fun u hu => c_TemplateOf a u (ht.below hu)
  have CB : Hid (∀ u, Below w.heap.size w u → Calls Tryd.prog 41 #[.int .i64 b] u (GivesP2 u (tofN b) (tofX b) (tofB b))) := fun u hu => c_TemplateOf b u (ht.below hu)
  clear ht
  cases ha : tofB a
  · obtain ⟨e1, e2⟩ := hs_no (show hsB x y z a b = false by unfold hsB; rw [ha]; simp)
    rw [e1, e2, show hsB x y z a b = false by unfold hsB; rw [ha]; simp]
    clear e1 e2
    rw [ha] at CA
    clear ha
    generalize tofX a = X at *
    generalize tofN a = nX at *
    generalize tofX b = Y at *
    generalize tofN b = nY at *
    generalize tofB b = bb at *
    go_enter Tryd.func17, Tryd.ntmps17
    go_wp2_with fail
    generalize ((w.alloc (.cells #[.int .i64 x, .int .i64 y, .int .i64 z] 30)).alloc (.cells #[.slice none 0 0, .slice none 0 0] 27)) = W0 at *
    refine (CA.out _ H0.out.b).mono ?_
    rintro e w1 ⟨p, rfl, hr, hb⟩
    obtain ⟨PA, pc, rfl⟩ := RowP.shape hr
    have H1 := Lib.hid (H0.out.below hb)
    clear hr hb
    go_wp2_with fail
    refine (CB.out _ H1.out.b).mono ?_
    rintro e w2 ⟨q, rfl, hr, hb⟩
    obtain ⟨QA, qc, rfl⟩ := RowP.shape hr
    have H2 := Lib.hid (H1.out.below hb)
    clear hr hb
    have y0 := H2.out.s.c0
    have y1 := H2.out.s.c1
    have y2 := H2.out.s.f 0
    have y3 := H2.out.s.f 1
    have y4 := H2.out.s.lt
    have HN := Lib.hid H2.out.nil_
    go_wp2
    generalize ((w2.setCell ⟨w.heap.size + 1, 0, none⟩ (.slice none 0 0)).setCell ⟨w.heap.size + 1, 1, none⟩ (.slice none 0 0)) = we at *
    obtain ⟨P1, P2, P3⟩ := HN.out
    have f0 := P2.c0
    have f1 := P2.c1
    refine bodyPost_ret (v := .tuple #[.agg #[.slice none 0 0, .slice none 0 0], .bool false]) (by simp [results, Tryd.results17, go_sem, f0, f1]) rfl ⟨_, _, rfl, P1, P3⟩
  cases hb0 : tofB b
  · obtain ⟨e1, e2⟩ := hs_no (show hsB x y z a b = false by unfold hsB; rw [hb0]; simp)
    rw [e1, e2, show hsB x y z a b = false by unfold hsB; rw [hb0]; simp]
    clear e1 e2
    rw [ha] at CA
    rw [hb0] at CB
    clear ha hb0
    generalize tofX a = X at *
    generalize tofN a = nX at *
    generalize tofX b = Y at *
    generalize tofN b = nY at *
    go_enter Tryd.func17, Tryd.ntmps17
    go_wp2_with fail
    generalize ((w.alloc (.cells #[.int .i64 x, .int .i64 y, .int .i64 z] 30)).alloc (.cells #[.slice none 0 0, .slice none 0 0] 27)) = W0 at *
    refine (CA.out _ H0.out.b).mono ?_
    rintro e w1 ⟨p, rfl, hr, hb⟩
    obtain ⟨PA, pc, rfl⟩ := RowP.shape hr
    have H1 := Lib.hid (H0.out.below hb)
    clear hr hb
    go_wp2_with fail
    refine (CB.out _ H1.out.b).mono ?_
    rintro e w2 ⟨q, rfl, hr, hb⟩
    obtain ⟨QA, qc, rfl⟩ := RowP.shape hr
    have H2 := Lib.hid (H1.out.below hb)
    clear hr hb
    have y0 := H2.out.s.c0
    have y1 := H2.out.s.c1
    have y2 := H2.out.s.f 0
    have y3 := H2.out.s.f 1
    have y4 := H2.out.s.lt
    have HN := Lib.hid H2.out.nil_
    go_wp2
    generalize ((w2.setCell ⟨w.heap.size + 1, 0, none⟩ (.slice none 0 0)).setCell ⟨w.heap.size + 1, 1, none⟩ (.slice none 0 0)) = we at *
    obtain ⟨P1, P2, P3⟩ := HN.out
    have f0 := P2.c0
    have f1 := P2.c1
    refine bodyPost_ret (v := .tuple #[.agg #[.slice none 0 0, .slice none 0 0], .bool false]) (by simp [results, Tryd.results17, go_sem, f0, f1]) rfl ⟨_, _, rfl, P1, P3⟩
  cases hg : goodB x y z
  · obtain ⟨e1, e2⟩ := hs_no (show hsB x y z a b = false by unfold hsB; rw [hg]; simp)
    rw [e1, e2, show hsB x y z a b = false by unfold hsB; rw [hg]; simp]
    clear e1 e2
    rw [ha] at CA
    rw [hb0] at CB
    rw [hg] at CG
    clear ha hb0 hg
    generalize tofX a = X at *
    generalize tofN a = nX at *
    generalize tofX b = Y at *
    generalize tofN b = nY at *
    go_enter Tryd.func17, Tryd.ntmps17
    go_wp2_with fail
    generalize ((w.alloc (.cells #[.int .i64 x, .int .i64 y, .int .i64 z] 30)).alloc (.cells #[.slice none 0 0, .slice none 0 0] 27)) = W0 at *
    refine (CA.out _ H0.out.b).mono ?_
    rintro e w1 ⟨p, rfl, hr, hb⟩
    obtain ⟨PA, pc, rfl⟩ := RowP.shape hr
    have H1 := Lib.hid (H0.out.below hb)
    clear hr hb
    go_wp2_with fail
    refine (CB.out _ H1.out.b).mono ?_
    rintro e w2 ⟨q, rfl, hr, hb⟩
    obtain ⟨QA, qc, rfl⟩ := RowP.shape hr
    have H2 := Lib.hid (H1.out.below hb)
    clear hr hb
    have z0 := H2.out.g.c0
    have z1 := H2.out.g.c1
    have z2 := H2.out.g.c2
    have z3 := H2.out.g.lt
    go_wp2_with fail
    refine (CG.out _).mono ?_
    rintro e w3 ⟨rfl, hb⟩
    have H3 := Lib.hid (H2.out.below hb)
    clear hb
    have y0 := H3.out.s.c0
    have y1 := H3.out.s.c1
    have y2 := H3.out.s.f 0
    have y3 := H3.out.s.f 1
    have y4 := H3.out.s.lt
    have HN := Lib.hid H3.out.nil_
    go_wp2
    generalize ((w3.setCell ⟨w.heap.size + 1, 0, none⟩ (.slice none 0 0)).setCell ⟨w.heap.size + 1, 1, none⟩ (.slice none 0 0)) = we at *
    obtain ⟨P1, P2, P3⟩ := HN.out
    have f0 := P2.c0
    have f1 := P2.c1
    refine bodyPost_ret (v := .tuple #[.agg #[.slice none 0 0, .slice none 0 0], .bool false]) (by simp [results, Tryd.results17, go_sem, f0, f1]) rfl ⟨_, _, rfl, P1, P3⟩
  obtain ⟨e1, e2⟩ := hs_yes (show hsB x y z a b = true by unfold hsB; rw [hg, ha, hb0]; rfl)
  rw [e1, e2, show hsB x y z a b = true by unfold hsB; rw [hg, ha, hb0]; rfl]
  have ea : tofX a = stdX a.toNat := by unfold tofX; rw [ha]; simp
  have eb : tofX b = stdX b.toNat := by unfold tofX; rw [hb0]; simp
  rw [ha, ea] at CA
  rw [hb0, eb] at CB
  rw [hg] at CG
  have CL : Hid (∀ u, Calls Tryd.prog 43 #[.agg #[.int .i64 x, .int .i64 y, .int .i64 z]] u fun e w' => e = .returned (.int .i64 (x * y)) ∧ Below u.heap.size u w') := fun u => c_levelSize x y z u hg
  obtain ⟨x1, x2, y1, y2, z1, z2, p1, p2, q1, q2⟩ := good_box hg
  obtain ⟨m, hm⟩ := Int.eq_ofNat_of_zero_le p1
  have hm2 : m ≤ 1000 := by omega
  have CF : Hid (∀ (k : Nat) u, k < m → Calls Tryd.prog 52 #[.agg #[.int .i64 x, .int .i64 y, .int .i64 z], .int .i64 k] u fun e w' => e = .returned (.agg #[.int .i64 ((k : Int) % x), .int .i64 ((k : Int) / x % y), .int .i64 ((k : Int) / x / y)]) ∧ Below u.heap.size u w') := fun k u hk => c_findPlace x y z k u x1 x2 y1 y2 (by omega) (by omega)
  have HZ : Hid (∀ W : World, Row (W.alloc (.cells (madeCells #[.int .i64 0] m) 3)) W.heap.size (.slice (some ⟨W.heap.size, 0, none⟩) m m) (List.replicate m 0)) := fun W => row_zeros W m (by unfold maxLen; omega)
  rw [show (x * y).toNat = m by omega]
  have hmk := make_zeros hm hm2
  have HSe : Hid (∀ k : Nat, k < m → ¬ ((k : Int) % x < x / 2) → (half (hsL x m) k).set k 1 = half (hsL x m) (k + 1)) := fun k hk hs => by
    have := half_set (hsL x m) k (by rw [hsL_len]; exact hk)
    rw [hsL_at x hk] at this
    unfold hsV at this
    rw [if_neg hs] at this
    exact this
  have HSa : Hid (∀ k : Nat, k < m → (k : Int) % x < x / 2 → half (hsL x m) (k + 1) = half (hsL x m) k) := fun k hk hs => half_same _ k (by rw [hsL_len]; exact hk) (by rw [hsL_at x hk]; unfold hsV; rw [if_pos hs])
  have HS0 : Hid (half (hsL x m) 0 = List.replicate m 0) := by rw [half_zero, hsL_len]; exact rfl
  have HS9 : Hid (half (hsL x m) m = hsL x m) := by have := half_all (hsL x m); rw [hsL_len] at this; exact this
  have HLe : Hid (∀ k, k ≤ m → (half (hsL x m) k).length = m) := fun k hk => by rw [half_len _ _ (by rw [hsL_len]; exact hk), hsL_len]
  have hx2 : 0 ≤ x / 2 ∧ x / 2 ≤ 4 := by omega
  clear e1 e2 hg ha hb0 ea eb y1 y2 z1 z2 p1 p2 q1 q2 hm
  generalize stdX a.toNat = X at *
  generalize stdX b.toNat = Y at *
  generalize tofN a = nX at *
  generalize tofN b = nY at *
  generalize hsL x m = HL at *
  generalize half HL = T at *
  go_enter Tryd.func17, Tryd.ntmps17
  go_wp2_with fail
  generalize ((w.alloc (.cells #[.int .i64 x, .int .i64 y, .int .i64 z] 30)).alloc (.cells #[.slice none 0 0, .slice none 0 0] 27)) = W0 at *
  refine (CA.out _ H0.out.b).mono ?_
  rintro e w1 ⟨p, rfl, hr, hb⟩
  obtain ⟨PA, pc, rfl⟩ := RowP.shape hr
  have H1 := Lib.hid (H0.out.below hb)
  have HP1 := Lib.hid hr.rowO
  have S1 := Lib.hid hb.size
  have L0 := Lib.hid H0.out.l
  have PU := Lib.hid (fun k (hk : (Value.slice PA nX pc).ownBlock = some k) => (World.ownsRow.lt hr k hk).2)
  clear hr hb
  go_wp2_with fail
  refine (CB.out _ H1.out.b).mono ?_
  rintro e w2 ⟨q, rfl, hr, hb⟩
  obtain ⟨QA, qc, rfl⟩ := RowP.shape hr
  have H2 := Lib.hid (H1.out.below hb)
  have HQ2 := Lib.hid (RowO.mono hr.rowO S1.out)
  have HP2 := Lib.hid (HP1.out.below hb)
  have S2 := Lib.hid (Nat.le_trans S1.out hb.size)
  have QU := Lib.hid (fun k (hk : (Value.slice QA nY qc).ownBlock = some k) => (World.ownsRow.lt hr k hk).1)
  clear hr hb
  have z0 := H2.out.g.c0
  have z1 := H2.out.g.c1
  have z2 := H2.out.g.c2
  have z3 := H2.out.g.lt
  go_wp2_with fail
  refine (CG.out _).mono ?_
  rintro e w3 ⟨rfl, hb⟩
  have H3 := Lib.hid (H2.out.below hb)
  have HQ3 := Lib.hid (HQ2.out.below hb)
  have HP3 := Lib.hid (HP2.out.below hb)
  have S3 := Lib.hid (Nat.le_trans S2.out hb.size)
  clear hb z0 z1 z2 z3
  have z0 := H3.out.g.c0
  have z1 := H3.out.g.c1
  have z2 := H3.out.g.c2
  have z3 := H3.out.g.lt
  go_wp2_with fail
  refine (CL.out _).mono ?_
  rintro e w4 ⟨rfl, hb⟩
  have H4 := Lib.hid (H3.out.below hb)
  have HQ4 := Lib.hid (HQ3.out.below hb)
  have HP4 := Lib.hid (HP3.out.below hb)
  have S4 := Lib.hid (Nat.le_trans S3.out hb.size)
  clear hb z0 z1 z2 z3
  have hbz : Below w4.heap.size w4 (w4.alloc (.cells (madeCells #[.int .i64 0] m) 3)) := (Below.refl _ _).alloc (Nat.le_refl _) _
  have H5 := Lib.hid (H4.out.below hbz)
  have HQ5 := Lib.hid (HQ4.out.below hbz)
  have HP5 := Lib.hid (HP4.out.below hbz)
  have HR5 : Hid (Row (w4.alloc (.cells (madeCells #[.int .i64 0] m) 3)) w4.heap.size (.slice (some ⟨w4.heap.size, 0, none⟩) m m) (T 0)) := by rw [HS0.out]; exact HZ.out w4
  have HB5 := Lib.hid hbz
  have LS : Hid (w.heap.size + 2 ≤ w4.heap.size) := Nat.le_trans L0.out S4.out
  clear hbz
  go_wp2_with fail
  generalize w4.alloc (.cells (madeCells #[.int .i64 0] m) 3) = W5 at *
  clear hmk
  go_loopw [41] (fun i wr => ∃ k : Nat, k ≤ m ∧ i = .int .i64 k ∧ Row wr w4.heap.size (.slice (some ⟨w4.heap.size, 0, none⟩) m m) (T k) ∧ Below w4.heap.size w4 wr) (fun i _ => m - (intOf i).toNat)
  case atStart => exact ⟨0, Nat.zero_le _, rfl, HR5.out, HB5.out⟩
  case round =>
    obtain ⟨k, hk, rfl, hr, hb⟩ := hrel
    have HR := Lib.hid hr
    have HB := Lib.hid hb
    have HH := Lib.hid (H4.out.below hb)
    have HLk := Lib.hid (HLe.out k hk)
    clear hr hb
    have g0 := HH.out.g.c0
    have g1 := HH.out.g.c1
    have g2 := HH.out.g.c2
    have g3 := HH.out.g.lt
    by_cases hlt : k < m
    · have c1 : (k : Int) < (m : Int) := by omega
      have c0 : (0 : Int) ≤ (k : Int) := by omega
      have CFk : Hid (∀ u, Calls Tryd.prog 52 #[.agg #[.int .i64 x, .int .i64 y, .int .i64 z], .int .i64 k] (wOf wr u) fun e w' => e = .returned (.agg #[.int .i64 ((k : Int) % x), .int .i64 ((k : Int) / x % y), .int .i64 ((k : Int) / x / y)]) ∧ Below (wOf wr u).heap.size (wOf wr u) w') := fun u => CF.out k _ hlt
      have ixk := ix0 ((k : Int) % x) ((k : Int) / x % y) ((k : Int) / x / y)
      have iq : IntKind.i64.wrap (x / 2) = x / 2 := IntWalk.i64_in _ (by omega)
      have HSk := Lib.hid (HSe.out k hlt)
      have HAk := Lib.hid (HSa.out k hlt)
      go_wp2_with fail
      refine wp_region_grow (by kernel_rfl) (by kernel_rfl) ?_
      repeat (go_big_quiet_step ((go_at_call 52; exact grow_of (CFk.out _))))
      refine wpQuiet_nil ?_
      intro _ hw'
      obtain ⟨u, hw''⟩ := hw'
      subst hw''
      have hb2 := wOf_below wr u
      generalize wOf wr u = w6 at hb2 ⊢
      have HR6 := Lib.hid (Row.below HR.out hb2)
      have HB6 : Hid (Below w4.heap.size w4 w6) := HB.out.trans (hb2.mono HB.out.size)
      clear hb2 CFk ixk g0 g1 g2 g3
      generalize (k : Int) / x % y = t1 at *
      generalize (k : Int) / x / y = t2 at *
      by_cases hs : (k : Int) % x < x / 2
      · have G := Lib.hid (HAk.out hs)
        have hs2 : ¬ (x / 2 ≤ (k : Int) % x) := by omega
        generalize (k : Int) % x = t0 at *
        go_wp2
        go_roundw
        case rel => exact ⟨k + 1, by omega, by go_num, by rw [G.out]; exact HR6.out, HB6.out⟩
        case measure => simp [intOf]; omega
      · have G := Lib.hid (HSk.out (by omega))
        have hs2 : x / 2 ≤ (k : Int) % x := by omega
        generalize (k : Int) % x = t0 at *
        obtain ⟨R1, R2⟩ := Row.set_ (n := m) HLk.out.symm HR6.out k 1
        have q0 : ∃ u, w6.cell? ⟨w4.heap.size, k, none⟩ = some (.int .i64 u) := by
          have h := HR6.out
          rw [show m = (T k).length from HLk.out.symm] at h
          exact ⟨_, Row.cell h k (by rw [HLk.out]; exact hlt)⟩
        obtain ⟨u0, q0⟩ := q0
        have q1 : w6.frozen? ⟨w4.heap.size, k, none⟩ = false := by
          have h := HR6.out
          unfold Row at h
          rw [HLk.out] at h
          exact World.ownsRow.frozenAt h k
        have K1 : Hid (Row (w6.setCell ⟨w4.heap.size, k, none⟩ (.int .i64 1)) w4.heap.size (.slice (some ⟨w4.heap.size, 0, none⟩) m m) (T (k + 1))) := by rw [← G.out]; exact R1
        have K2 : Hid (Below w4.heap.size w4 (w6.setCell ⟨w4.heap.size, k, none⟩ (.int .i64 1))) := HB6.out.setCell (p := ⟨w4.heap.size, k, none⟩) (Nat.le_refl _) _
        clear R1 R2
        go_wp2
        go_roundw
        case rel => exact ⟨k + 1, by omega, by go_num, K1.out, K2.out⟩
        case measure => simp [intOf]; omega
    · obtain rfl : k = m := by omega
      have KT := rowsO_two (HP4.out.below HB.out) (HQ4.out.below HB.out) (Nat.le_trans S4.out HB.out.size) PU.out QU.out
      have KB : Below wr.heap.size wr (wr.alloc (.cells #[.slice PA nX pc, .slice QA nY qc] 70)) := (Below.refl _ _).alloc (Nat.le_refl _) _
      have KR := (Row.below HR.out KB).mono S4.out
      rw [HS9.out] at KR
      have HN := (HH.out.below KB).put (OwnS.of KR KT (Nat.le_refl _)) L0.out
      rw [← put_alloc1 HH.out.s.lt] at HN
      have HP := Lib.hid HN
      clear KT KB KR HN
      have y0 := HH.out.s.c0
      have y1 := HH.out.s.c1
      have y2 := HH.out.s.f 0
      have y3 := HH.out.s.f 1
      have y4 := HH.out.s.lt
      go_wp2
      generalize (((wr.setCell ⟨w.heap.size + 1, 0, none⟩ (.slice (some ⟨w4.heap.size, 0, none⟩) k k)).setCell ⟨w.heap.size + 1, 1, none⟩ (.slice (some ⟨wr.heap.size, 0, none⟩) 2 2)).alloc (.cells #[.slice PA nX pc, .slice QA nY qc] 70)) = we at *
      obtain ⟨P1, P2, P3⟩ := HP.out
      have f0 := P2.c0
      have f1 := P2.c1
      refine bodyPost_ret (v := .tuple #[.agg #[.slice (some ⟨w4.heap.size, 0, none⟩) k k, .slice (some ⟨wr.heap.size, 0, none⟩) 2 2], .bool true]) (by simp [results, Tryd.results17, go_sem, f0, f1]) rfl ⟨_, _, rfl, P1, P3⟩
end Go.Proofs.YtmimilchldjkbaaDoor
