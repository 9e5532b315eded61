/-
  Contract: the text of slopes, in the model.
-/
import Derived.Test.YtmimilchldjkbaaDoorTS1
namespace Go.Proofs.YtmimilchldjkbaaDoor
open Go.RowKit
set_option linter.unusedVariables false

def tWd : ByteArray := ⟨#[116, 101, 109, 112, 108, 97, 116, 101]⟩
def sWd : ByteArray := ⟨#[115, 101, 99, 116, 111, 114, 115]⟩
/-- The lines of the first j templates. -/
def slTx (tss : List (List Int)) : Nat → ByteArray
  | 0 => ⟨#[]⟩
  | j + 1 => slTx tss j ++ (linW tWd (tss.getD j []) (tss.getD j []).length ++ ⟨#[10]⟩)
def slAll (ss : List Int) (tss : List (List Int)) : ByteArray := slTx tss tss.length ++ (linW sWd ss ss.length ++ ⟨#[10]⟩)
structure SlOk (ss : List Int) (tss : List (List Int)) : Prop where
  n : tss.length ≤ 4
  row : ∀ j, j < tss.length → (tss.getD j []).length / 3 * 3 = (tss.getD j []).length → (tss.getD j []).length ≤ 36 ∧ AllSm (tss.getD j [])
  s : ss.length ≤ 48
  sm : AllSm ss
  sp : ∀ k, k < ss.length → 0 ≤ ss.getD k 0
theorem slOk {x y z : Int} {ss : List Int} {tss : List (List Int)} (h : sloV x y z ss tss = true) : SlOk ss tss := by
  unfold sloV sloB tmsB at h
  simp only [Bool.and_eq_true, decide_eq_true_eq] at h
  obtain ⟨hg, ⟨⟨n1, n2⟩, ht⟩, ha⟩ := h
  unfold areB at ha
  simp only [Bool.and_eq_true, decide_eq_true_eq] at ha
  obtain ⟨x1, x2, y1, y2, z1, z2, p1, p2, q1, q2⟩ := good_box hg
  refine ⟨n2, fun j hj h3 => ?_, by omega, fun k hk => ?_, fun k hk => (all_at ha.2 hk).1⟩
  · have hk := temsAll_at ht hj
    unfold temK at hk
    obtain ⟨m1, m2, m3⟩ := tem_true hk
    refine ⟨by omega, fun k hk => ?_⟩
    have ho := temAll_at m3 (k := k / 3) (by omega)
    unfold okT at ho
    rw [Bool.and_eq_true] at ho
    obtain ⟨o1, o2, o3, o4, o5, o6⟩ := off_true ho.1
    rcases (show k = k / 3 * 3 ∨ k = k / 3 * 3 + 1 ∨ k = k / 3 * 3 + 2 by omega) with e | e | e <;> rw [e] <;> omega
  · have := all_at ha.2 hk
    omega
theorem tline_size {ss : List Int} {tss : List (List Int)} (ho : SlOk ss tss) {j : Nat} (hj : j < tss.length) (h3 : (tss.getD j []).length / 3 * 3 = (tss.getD j []).length) {k : Nat} (hk : k ≤ (tss.getD j []).length) : (linW tWd (tss.getD j []) k).size ≤ 400 := by
  obtain ⟨a, b⟩ := ho.row j hj h3
  have := linW_size (w := tWd) b k hk
  have e : tWd.size = 8 := rfl
  omega
theorem slTx_size {ss : List Int} {tss : List (List Int)} (ho : SlOk ss tss) (h3 : ∀ j, j < tss.length → (tss.getD j []).length / 3 * 3 = (tss.getD j []).length) : ∀ j, j ≤ tss.length → (slTx tss j).size ≤ 401 * j
  | 0, _ => by show 0 ≤ 401 * 0; omega
  | j + 1, hj => by
    have ih := slTx_size ho h3 j (by omega)
    have := tline_size ho (j := j) (by omega) (h3 j (by omega)) (Nat.le_refl _)
    rw [slTx, ByteArray.size_append, ByteArray.size_append, show (⟨#[10]⟩ : ByteArray).size = 1 from rfl]
    omega

set_option maxHeartbeats 16000000 in
set_option maxRecDepth 100000 in
theorem c_slText (v1 v2 : Value) (ss : List Int) (tss : List (List Int)) (w : World) (ho : SlOk ss tss) (h : LookS w v1 v2 ss tss) :
    Calls Tryd.prog 56 #[.agg #[v1, v2]] w fun e w' => e = .returned (.string (slAll ss tss)) ∧ Below w.heap.size w w' := by
  obtain ⟨A1, c1, rfl, _, hA1⟩ := h.s
  obtain ⟨A2, c2, rfl, _, hA2⟩ := h.t
  have E1 : Hid (∀ k, k < ss.length → ∃ b off, A1 = some ⟨b, off, none⟩ ∧ b < w.heap.size ∧ w.cell? ⟨b, off + k, none⟩ = some (.int .i64 (ss.getD k 0))) := fun k hk => by
    obtain ⟨b, off, rfl, hb, hc⟩ := hA1 (by omega)
    exact ⟨b, off, rfl, hb, hc k hk⟩
  have E2 : Hid (∀ j, j < tss.length → ∃ b off A' c', A2 = some ⟨b, off, none⟩ ∧ b < w.heap.size ∧ w.cell? ⟨b, off + j, none⟩ = some (.slice A' ((tss.getD j []).length / 3) c') ∧ (tss.getD j []).length / 3 * 3 = (tss.getD j []).length ∧ ∀ k, k < (tss.getD j []).length / 3 → ∃ b' off', A' = some ⟨b', off', none⟩ ∧ b' < w.heap.size ∧ w.cell? ⟨b', off' + k * 3, none⟩ = some (.int .i64 ((tss.getD j []).getD (k * 3) 0)) ∧ w.cell? ⟨b', off' + k * 3 + 1, none⟩ = some (.int .i64 ((tss.getD j []).getD (k * 3 + 1) 0)) ∧ w.cell? ⟨b', off' + k * 3 + 2, none⟩ = some (.int .i64 ((tss.getD j []).getD (k * 3 + 2) 0))) := fun j hj => by
    obtain ⟨b, off, rfl, hb, hc⟩ := hA2 (by omega)
    obtain ⟨u, hu, A', c', rfl, _, hx, hA'⟩ := hc j hj
    refine ⟨b, off, A', c', rfl, hb, hu, by omega, fun k hk => ?_⟩
    obtain ⟨b', off', rfl, hb', hc'⟩ := hA' (by omega)
    exact ⟨b', off', rfl, hb', hc' (k * 3) (by omega), by have := hc' (k * 3 + 1) (by omega); rwa [← Nat.add_assoc] at this, by have := hc' (k * 3 + 2) (by omega); rwa [← Nat.add_assoc] at this⟩
  have H3 : Hid (∀ j, j < tss.length → (tss.getD j []).length / 3 * 3 = (tss.getD j []).length) := fun j hj => by
    obtain ⟨_, _, _, _, _, _, _, h3, _⟩ := E2.out j hj
    exact h3
  have HS := Lib.hid (slTx_size ho H3.out)
  have HL : Hid (∀ j, j < tss.length → ∀ k, k ≤ (tss.getD j []).length → (linW tWd (tss.getD j []) k).size ≤ 400) := fun j hj k hk => tline_size ho hj (H3.out j hj) hk
  have HM : Hid (∀ k, k ≤ ss.length → (linW sWd ss k).size ≤ 7 + 9 * k) := fun k hk => linW_size (w := sWd) ho.sm k hk
  have HB3 : Hid (∀ j, j < tss.length → ∀ k, k < (tss.getD j []).length → -1000 ≤ (tss.getD j []).getD k 0 ∧ (tss.getD j []).getD k 0 ≤ 1000) := fun j hj => (ho.row j hj (H3.out j hj)).2
  have HSp : Hid (∀ k, k < ss.length → 0 ≤ ss.getD k 0 ∧ ss.getD k 0 ≤ 1000) := fun k hk => ⟨ho.sp k hk, (ho.sm k hk).2⟩
  have HLen : Hid (∀ j, j < tss.length → (tss.getD j []).length ≤ 36) := fun j hj => (ho.row j hj (H3.out j hj)).1
  have hn4 := ho.n
  have hs48 := ho.s
  have T0 : Hid (slTx tss 0 = ⟨#[]⟩) := rfl
  have TS : Hid (∀ j, slTx tss (j + 1) = slTx tss j ++ (linW tWd (tss.getD j []) (tss.getD j []).length ++ ⟨#[10]⟩)) := fun j => rfl
  have HX0 : Hid (Mine2 (w.alloc (.cells #[.slice A1 ss.length c1, .slice A2 tss.length c2] 27)) w.heap.size (.slice A1 ss.length c1) (.slice A2 tss.length c2)) := Mine2.new _ _ _ _
  have HB0 : Hid (Below w.heap.size w (w.alloc (.cells #[.slice A1 ss.length c1, .slice A2 tss.length c2] 27))) := (Below.refl _ _).alloc (Nat.le_refl _) _
  have HAll : Hid (slAll ss tss = slTx tss tss.length ++ (linW sWd ss ss.length ++ ⟨#[10]⟩)) := rfl
  have HM0 : Hid (linW sWd ss 0 = ⟨#[115, 101, 99, 116, 111, 114, 115]⟩) := rfl
  have HMs : Hid (∀ k, linW sWd ss (k + 1) = linW sWd ss k ++ (⟨#[32]⟩ ++ itS (ss.getD k 0))) := fun k => rfl
  clear h ho hA1 hA2 H3
  generalize slAll ss tss = R at *
  generalize slTx tss = X at *
  generalize linW sWd ss = Z at *
  generalize hns : ss.length = ns at *
  generalize hnt : tss.length = nt at *
  clear hns hnt
  go_enter Tryd.func56, Tryd.ntmps56
  go_wp2_with fail
  generalize w.alloc (.cells #[.slice A1 ns c1, .slice A2 nt c2] 27) = W0 at *
  have x0 := HX0.out.c0
  have x1 := HX0.out.c1
  go_wp2_with fail
  clear x0 x1
  go_loopw [3, 13] (fun s i wr => ∃ j : Nat, j ≤ nt ∧ i = .int .i64 j ∧ s = .string (X j) ∧ Below W0.heap.size W0 wr) (fun _ i _ => nt - (intOf i).toNat)
  case atStart => exact ⟨0, Nat.zero_le _, rfl, by rw [T0.out], Below.refl _ _⟩
  case round =>
    obtain ⟨j, hj, rfl, rfl, hb⟩ := hrel
    have HB := Lib.hid hb
    have HBw : Hid (Below w.heap.size w wr) := HB0.out.trans (hb.mono HB0.out.size)
    clear hb
    have hxs := HS.out j hj
    by_cases hlt : j < nt
    · obtain ⟨b, off, A', c', rfl, hb, q1, h3, E3⟩ := E2.out j hlt
      rw [← HBw.out.cell (p := ⟨b, off + j, none⟩) hb] at q1
      have HLj := Lib.hid (HL.out j hlt)
      have HB3j := Lib.hid (HB3.out j hlt)
      have hl36 := HLen.out j hlt
      have TSj := Lib.hid (TS.out j)
      have HE3 := Lib.hid E3
      clear E3
      generalize tss.getD j [] = ys at *
      have e0 : Hid (X j ++ ⟨#[116, 101, 109, 112, 108, 97, 116, 101]⟩ = X j ++ linW tWd ys 0) := rfl
      have a1 := addsT (X j) ⟨#[116, 101, 109, 112, 108, 97, 116, 101]⟩ (by show _ + 8 ≤ _; omega)
      have b0 : (0 : Int) ≤ (j : Int) := by omega
      have b9 : (j : Int) < (nt : Int) := by omega
      obtain ⟨m, hm⟩ : ∃ m, ys.length / 3 = m := ⟨_, rfl⟩
      rw [hm] at q1 HE3 h3
      have h36 : m ≤ 12 := by omega
      have HM3 : Hid (ys.length = m * 3) := h3.symm
      clear hm h3 hl36
      generalize X j = S0 at *
      go_wp2_with fail
      go_loopw [3, 21] (fun s i wr => ∃ k : Nat, k ≤ m ∧ i = .int .i64 k ∧ s = .string (S0 ++ linW tWd ys (k * 3)) ∧ Below W0.heap.size W0 wr) (fun _ i _ => m - (intOf i).toNat)
      case atStart => exact ⟨0, Nat.zero_le _, rfl, by rw [e0.out, Nat.zero_mul], HB.out⟩
      case round =>
        obtain ⟨k, hk, rfl, rfl, hb'⟩ := hrel
        have HBi := Lib.hid hb'
        have HBj : Hid (Below w.heap.size w wr) := HB0.out.trans (hb'.mono HB0.out.size)
        clear hb'
        have hly := HLj.out (k * 3) (by have := HM3.out; have := Nat.mul_le_mul_right 3 hk; omega)
        by_cases hlk : k < m
        · obtain ⟨b', off', rfl, hb', p0, p1, p2⟩ := HE3.out k hlk
          rw [← HBj.out.cell (p := ⟨b', off' + k * 3, none⟩) hb'] at p0
          rw [← HBj.out.cell (p := ⟨b', off' + k * 3 + 1, none⟩) hb'] at p1
          rw [← HBj.out.cell (p := ⟨b', off' + k * 3 + 2, none⟩) hb'] at p2
          have i0 := HB3j.out (k * 3) (by have := HM3.out; omega)
          have i1 := HB3j.out (k * 3 + 1) (by have := HM3.out; omega)
          have i2 := HB3j.out (k * 3 + 2) (by have := HM3.out; omega)
          have L3 : Hid (S0 ++ linW tWd ys ((k + 1) * 3) = S0 ++ linW tWd ys (k * 3) ++ (⟨#[32]⟩ ++ itS (ys.getD (k * 3) 0) ++ ⟨#[32]⟩ ++ itS (ys.getD (k * 3 + 1) 0) ++ ⟨#[32]⟩ ++ itS (ys.getD (k * 3 + 2) 0))) := by
            rw [show (k + 1) * 3 = k * 3 + 1 + 1 + 1 by omega]
            simp only [linW, Hid, ByteArray.append_assoc]
          have C0 := Lib.hid (fun u => c_l1Int (ys.getD (k * 3) 0) u i0.1 i0.2)
          have C1 := Lib.hid (fun u => c_l1Int (ys.getD (k * 3 + 1) 0) u i1.1 i1.2)
          have C2 := Lib.hid (fun u => c_l1Int (ys.getD (k * 3 + 2) 0) u i2.1 i2.2)
          have z0 := itS_size (n := ys.getD (k * 3) 0) (by omega) (by omega)
          have z1 := itS_size (n := ys.getD (k * 3 + 1) 0) (by omega) (by omega)
          have z2 := itS_size (n := ys.getD (k * 3 + 2) 0) (by omega) (by omega)
          clear i0 i1 i2
          generalize ys.getD (k * 3) 0 = t0 at *
          generalize ys.getD (k * 3 + 1) 0 = t1 at *
          generalize ys.getD (k * 3 + 2) 0 = t2 at *
          have d1 := addsT ⟨#[32]⟩ (itS t0) (by show 1 + _ ≤ _; omega)
          have d2 := addsT (⟨#[32]⟩ ++ itS t0) ⟨#[32]⟩ (by rw [ByteArray.size_append]; show 1 + _ + 1 ≤ _; omega)
          have d3 := addsT (⟨#[32]⟩ ++ itS t0 ++ ⟨#[32]⟩) (itS t1) (by rw [ByteArray.size_append, ByteArray.size_append]; show 1 + _ + 1 + _ ≤ _; omega)
          have d4 := addsT (⟨#[32]⟩ ++ itS t0 ++ ⟨#[32]⟩ ++ itS t1) ⟨#[32]⟩ (by rw [ByteArray.size_append, ByteArray.size_append, ByteArray.size_append]; show 1 + _ + 1 + _ + 1 ≤ _; omega)
          have d5 := addsT (⟨#[32]⟩ ++ itS t0 ++ ⟨#[32]⟩ ++ itS t1 ++ ⟨#[32]⟩) (itS t2) (by rw [ByteArray.size_append, ByteArray.size_append, ByteArray.size_append, ByteArray.size_append]; show 1 + _ + 1 + _ + 1 + _ ≤ _; omega)
          have d6 := addsT (S0 ++ linW tWd ys (k * 3)) (⟨#[32]⟩ ++ itS t0 ++ ⟨#[32]⟩ ++ itS t1 ++ ⟨#[32]⟩ ++ itS t2) (by rw [ByteArray.size_append, ByteArray.size_append, ByteArray.size_append, ByteArray.size_append, ByteArray.size_append, ByteArray.size_append]; show _ + _ + (1 + _ + 1 + _ + 1 + _) ≤ _; omega)
          have c0 : (0 : Int) ≤ (k : Int) := by omega
          have c9 : (k : Int) < (m : Int) := by omega
          clear z0 z1 z2 hly
          generalize linW tWd ys (k * 3) = LL at *
          generalize S0 ++ LL = SS at *
          have HBn : Hid (Below W0.heap.size W0 (wr.alloc (.cells #[.int .i64 t0, .int .i64 t1, .int .i64 t2] 133))) := HBi.out.alloc HBi.out.size _
          go_wp2_with fail
          obtain ⟨ol, hol⟩ : ∃ ol, ol = wr.alloc (.cells #[.int .i64 t0, .int .i64 t1, .int .i64 t2] 133) := ⟨_, rfl⟩
          have k0 : ol.cell? ⟨wr.heap.size, 0, none⟩ = some (.int .i64 t0) := by rw [hol]; simp
          have k1 : ol.cell? ⟨wr.heap.size, 1, none⟩ = some (.int .i64 t1) := by rw [hol]; simp
          have k2 : ol.cell? ⟨wr.heap.size, 2, none⟩ = some (.int .i64 t2) := by rw [hol]; simp
          have k3 : wr.heap.size < ol.heap.size := by rw [hol]; simp
          rw [← hol] at HBn ⊢
          clear hol
          refine wp_region_grow (by kernel_rfl) (by kernel_rfl) ?_
          repeat (go_big_quiet_step (first
            | (go_at_call 99; with_reducible exact grow_of (C0.out _))
            | (go_at_call 99; with_reducible exact grow_of (C1.out _))
            | (go_at_call 99; with_reducible exact grow_of (C2.out _))))
          refine wpQuiet_nil ?_
          intro _ hw'
          obtain ⟨u, hw''⟩ := hw'
          subst hw''
          have hb2 := wOf_below ol u
          generalize wOf ol u = w6 at hb2 ⊢
          have HB6 : Hid (Below W0.heap.size W0 w6) := HBn.out.trans (hb2.mono HBn.out.size)
          clear hb2
          go_wp2
          go_roundw
          case rel => exact ⟨k + 1, by omega, by go_num, by rw [L3.out], HB6.out⟩
          case measure => simp [intOf]; omega
        · obtain rfl : k = m := by omega
          have a2 := addsT (S0 ++ linW tWd ys (k * 3)) ⟨#[10]⟩ (by rw [ByteArray.size_append]; show _ + _ + 1 ≤ _; omega)
          have e9 : Hid (X (j + 1) = S0 ++ linW tWd ys (k * 3) ++ ⟨#[10]⟩) := by
            unfold Hid
            rw [TSj.out, HM3.out, ByteArray.append_assoc]
          clear hly
          generalize linW tWd ys (k * 3) = LL at *
          go_wp2
          go_roundw
          case rel => exact ⟨j + 1, by omega, by go_num, by rw [e9.out], HBi.out⟩
          case measure => simp [intOf]; omega
    · obtain rfl : j = nt := by omega
      have a1 := addsT (X j) ⟨#[115, 101, 99, 116, 111, 114, 115]⟩ (by show _ + 7 ≤ _; omega)
      have x0 := (HX0.out.below HB.out).c0
      generalize X j = S0 at *
      have e0 : Hid (S0 ++ ⟨#[115, 101, 99, 116, 111, 114, 115]⟩ = S0 ++ Z 0) := by rw [HM0.out]; exact rfl
      go_wp2_with fail
      clear x0
      go_loopw [3, 50] (fun s i wr => ∃ k : Nat, k ≤ ns ∧ i = .int .i64 k ∧ s = .string (S0 ++ Z k) ∧ Below w.heap.size w wr) (fun _ i _ => ns - (intOf i).toNat)
      case atStart => exact ⟨0, Nat.zero_le _, rfl, by rw [e0.out], HBw.out⟩
      case round =>
        obtain ⟨k, hk, rfl, rfl, hb'⟩ := hrel
        have HBi := Lib.hid hb'
        clear hb'
        have hzs := HM.out k hk
        by_cases hlk : k < ns
        · obtain ⟨b', off', rfl, hb', p0⟩ := E1.out k hlk
          rw [← HBi.out.cell (p := ⟨b', off' + k, none⟩) hb'] at p0
          obtain ⟨s0, s1⟩ := HSp.out k hlk
          have HMk : Hid (S0 ++ Z (k + 1) = S0 ++ Z k ++ (⟨#[32]⟩ ++ itS (ss.getD k 0))) := by rw [HMs.out k, ByteArray.append_assoc]; exact rfl
          obtain ⟨t, ht⟩ := Int.eq_ofNat_of_zero_le s0
          rw [ht] at p0 HMk s1
          have z0 := itS_size (n := (t : Int)) (by omega) (by omega)
          have C0 := Lib.hid (fun u => c_l1NumT t u (by omega))
          have d1 := addsT ⟨#[32]⟩ (itS (t : Int)) (by show 1 + _ ≤ _; omega)
          have d2 := addsT (S0 ++ Z k) (⟨#[32]⟩ ++ itS (t : Int)) (by rw [ByteArray.size_append, ByteArray.size_append]; show _ + _ + (1 + _) ≤ _; omega)
          have c0 : (0 : Int) ≤ (k : Int) := by omega
          have c9 : (k : Int) < (ns : Int) := by omega
          clear z0 s0 s1 ht hzs
          generalize S0 ++ Z k = SS at *
          generalize itS (t : Int) = ST at *
          go_wp2_with fail
          refine (C0.out _).mono ?_
          rintro e w6 ⟨rfl, hb6⟩
          have HB6 : Hid (Below w.heap.size w w6) := HBi.out.trans (hb6.mono HBi.out.size)
          clear hb6
          go_wp2
          go_roundw
          case rel => exact ⟨k + 1, by omega, by go_num, by rw [HMk.out], HB6.out⟩
          case measure => simp [intOf]; omega
        · obtain rfl : k = ns := by omega
          have a2 := addsT (S0 ++ Z k) ⟨#[10]⟩ (by rw [ByteArray.size_append]; show _ + _ + 1 ≤ _; omega)
          have e9 : Hid (R = S0 ++ Z k ++ ⟨#[10]⟩) := by unfold Hid; rw [HAll.out, ByteArray.append_assoc]
          clear hzs
          generalize S0 ++ Z k = SS at *
          go_wp2
          go_ret
          exact ⟨by rw [e9.out]; rfl, HBi.out⟩
end Go.Proofs.YtmimilchldjkbaaDoor
