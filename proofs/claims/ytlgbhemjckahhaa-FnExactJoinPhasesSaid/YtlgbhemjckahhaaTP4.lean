/-
Contracts: joined phases, in the model of it.
-/
import Derived.Test.YtlgbhemjckahhaaTP3
namespace Go.Proofs.Ytlgbhemjckahhaa
open Go.RowKit
set_option linter.unusedVariables false

theorem jpB_eq (x y z : Int) (ts gs rs : List Int) (xss pss : List (List Int)) (least : Int) : jpB x y z ts gs rs xss pss least = (psB x y z ts gs rs xss pss && decide (0 ≤ least ∧ least ≤ 2000000)) := by
  unfold jpB psB
  rw [Bool.and_assoc]

set_option maxHeartbeats 8000000 in
set_option maxRecDepth 100000 in
theorem c_JoinPhasesS (x y z : Int) (v1 v2 v3 : Value) (ts gs rs : List Int) (xss pss : List (List Int)) (least : Int) (v u : Value) (w : World) (l1 : ts.length ≤ 4000000) (l2 : gs.length ≤ 4000000) (l3 : rs.length ≤ 4000000) (hs : ShortL xss) (hs2 : ShortL pss) (hm : Look w v1 v2 v3 ts gs rs) (h : SeenL w v xss) (hu : SeenL w u pss) :
    Calls Try.prog 40 #[.agg #[.int .i64 x, .int .i64 y, .int .i64 z, v1, v2, v3], v, u, .int .i64 least] w (GivesRows2 w (jpA x y z ts gs rs xss pss least) (jpB x y z ts gs rs xss pss least)) := by
  have HB0 : Hid (Below w.heap.size w (w.alloc (.cells #[.int .i64 x, .int .i64 y, .int .i64 z, v1, v2, v3] 52))) := (Below.refl _ _).alloc (Nat.le_refl _) _
  have HX0 : Hid (Box6 (w.alloc (.cells #[.int .i64 x, .int .i64 y, .int .i64 z, v1, v2, v3] 52)) w.heap.size x y z v1 v2 v3) := Box6.new w x y z v1 v2 v3 _
  obtain ⟨j0, hj0, hy0, hy1, hy2⟩ := info_parts list_info
  have HJ := Lib.hid hj0
  clear hj0
  have C0 := Lib.hid (c_phModel x y z v1 v2 v3 ts gs rs xss pss v u (w.alloc (.cells #[.int .i64 x, .int .i64 y, .int .i64 z, v1, v2, v3] 52)) l1 l2 l3 hs hs2 (hm.below HB0.out) (h.below HB0.out) (hu.below HB0.out))
  have HMD := Lib.hid hm
  have HPs := Lib.hid hu
  obtain ⟨A1, c1, rfl⟩ := hm.t.shape
  obtain ⟨A2, c2, rfl⟩ := hm.g.shape
  obtain ⟨A3, c3, rfl⟩ := hm.r.shape
  obtain ⟨A, c, rfl, _⟩ := h.shape
  obtain ⟨A9, c9, rfl, _⟩ := hu.shape
  clear hm h hu
  cases hps : psB x y z ts gs rs xss pss
  · have HL : Hid (jpA x y z ts gs rs xss pss least = [] ∧ jpB x y z ts gs rs xss pss least = false) := by
      have hb : jpB x y z ts gs rs xss pss least = false := by rw [jpB_eq, hps, Bool.false_and]
      exact ⟨by unfold jpA; rw [hb]; rfl, hb⟩
    rw [hps] at C0
    rw [HL.out.1, HL.out.2]
    clear hs hs2 hps
    go_enter Try.func40, Try.ntmps40
    go_wp2_with fail
    refine C0.out.mono ?_
    rintro e w2 ⟨rfl, hb⟩
    have HB2 := Lib.hid (HB0.out.trans (hb.mono HB0.out.size))
    have HX2 := Lib.hid (HX0.out.below hb)
    clear hb
    go_wp2
    go_ret2
    exact ⟨_, rfl, Rows.nil _ _ _, HB2.out⟩
  · rw [hps] at C0
    by_cases hl : 0 ≤ least ∧ least ≤ 2000000
    case neg =>
      have HL : Hid (jpA x y z ts gs rs xss pss least = [] ∧ jpB x y z ts gs rs xss pss least = false) := by
        have hb : jpB x y z ts gs rs xss pss least = false := by rw [jpB_eq, decide_eq_false hl, Bool.and_false]
        exact ⟨by unfold jpA; rw [hb]; rfl, hb⟩
      rw [HL.out.1, HL.out.2]
      have hld : decide (0 ≤ least ∧ least ≤ 2000000) = false := decide_eq_false hl
      clear hs hs2 hps
      go_enter Try.func40, Try.ntmps40
      go_wp2_with fail
      refine C0.out.mono ?_
      rintro e w2 ⟨rfl, hb⟩
      have HB2 := Lib.hid (HB0.out.trans (hb.mono HB0.out.size))
      have HX2 := Lib.hid (HX0.out.below hb)
      clear hb
      go_wp2_with fail
      refine (c_l1In _ _ _ _).mono ?_
      rintro e w' ⟨rfl, rfl⟩
      rw [hld]
      go_wp2
      go_ret2
      exact ⟨_, rfl, Rows.nil _ _ _, HB2.out⟩
    case pos =>
      have HL : Hid (jpA x y z ts gs rs xss pss least = (joS ts pss least pss.length).1 ∧ jpB x y z ts gs rs xss pss least = true) := by
        have hb : jpB x y z ts gs rs xss pss least = true := by rw [jpB_eq, hps, decide_eq_true hl]; rfl
        exact ⟨by unfold jpA; rw [hb]; rfl, hb⟩
      obtain ⟨hmo, hp⟩ : mdB x y z ts gs rs xss = true ∧ pitsB xss pss = true := by
        unfold psB at hps
        rwa [Bool.and_eq_true] at hps
      have hld : decide (0 ≤ least ∧ least ≤ 2000000) = true := decide_eq_true hl
      have HLD := Lib.hid hld
      obtain ⟨n1, n2⟩ := pits_len hp
      have hN := arc_len (pits_arc hp)
      obtain ⟨n, hnn⟩ : ∃ n, pss.length = n := ⟨_, rfl⟩
      have HNN := Lib.hid hnn
      have HLP : Hid (∀ k, k < n → 0 < (pss.getD k []).length ∧ (pss.getD k []).length ≤ 120) := fun k hk => pits_short8 hp (by omega)
      have HLQ : Hid (∀ k, k ≤ n → (joS ts pss least k).2.length ≤ 120) := fun k hk => by
        have := ris_len (jo_ris (ts := ts) (least := least) (pits_at hp) (k := k) (by omega)) (by omega)
        omega
      have CLk : Hid (∀ (k : Nat) (q q2 : Value) w1, k < n → Seen w1 q (pss.getD k []) → Seen w1 q2 (joS ts pss least k).2 → Calls Try.prog 72 #[q, q2] w1 (GivesRow w1 (lessL (pss.getD k []) (joS ts pss least k).2))) := fun k q q2 w1 hk h1 h2 => c_phLess _ _ q q2 w1 (by have := (HLP.out k hk).2; omega) (by have := HLQ.out k (by omega); omega) h1 h2
      have CMk : Hid (∀ (k : Nat) (q : Value) w1, k < n → Below w.heap.size w w1 → Seen w1 q (lessL (pss.getD k []) (joS ts pss least k).2) → Calls Try.prog 67 #[.agg #[.int .i64 x, .int .i64 y, .int .i64 z, .slice A1 ts.length c1, .slice A2 gs.length c2, .slice A3 rs.length c3], q] w1 fun e w' => e = .returned (.tuple #[.int .i64 (sumT ts (lessL (pss.getD k []) (joS ts pss least k).2)), .int .i64 (sumM ts gs (lessL (pss.getD k []) (joS ts pss least k).2))]) ∧ Below w1.heap.size w1 w') := fun k q w1 hk hb hq => by
        have hr : risB xss.length (lessL (pss.getD k []) (joS ts pss least k).2) = true := less_ris _ (pit_ris (pits_at hp) (by omega))
        have hll := less_len (pss.getD k []) (joS ts pss least k).2
        exact c_moSums x y z _ _ _ ts gs rs q _ w1 l1 l2 (by have := (HLP.out k hk).2; omega) (HMD.out.below hb) hq (md_list hmo hr)
      have HSk : Hid (∀ k, k + 1 < n → sumT ts (lessL (pss.getD k []) (joS ts pss least k).2) < least → joS ts pss least (k + 1) = joS ts pss least k) := fun k hk hh => jo_skip (by omega) hh
      have HKp : Hid (∀ k, k < n → ¬ (k + 1 < n ∧ sumT ts (lessL (pss.getD k []) (joS ts pss least k).2) < least) → (joS ts pss least k).1 ++ [pss.getD k []] = (joS ts pss least (k + 1)).1 ∧ (joS ts pss least (k + 1)).2 = pss.getD k []) := fun k hk hh => by
        rw [jo_keep (by rw [hnn]; exact hh)]
        exact ⟨rfl, rfl⟩
      have H0 : Hid (joS ts pss least 0 = ([], [])) := rfl
      have HLn : Hid (∀ k, (joS ts pss least k).1.length ≤ k) := fun k => jo_len ts pss least k
      have HN8 : Hid (n ≤ 8) := by show _ ≤ _; omega
      rw [HL.out.1, HL.out.2]
      rw [hnn] at C0 ⊢
      clear hs hs2 hmo hp HL hnn n1 n2 hps hN hld hl
      generalize joS ts pss least = F at *
      go_enter Try.func40, Try.ntmps40
      go_wp2_with fail
      refine C0.out.mono ?_
      rintro e w2 ⟨rfl, hb⟩
      have HB2 := Lib.hid (HB0.out.trans (hb.mono HB0.out.size))
      have HX2 := Lib.hid (HX0.out.below hb)
      clear hb
      go_wp2_with fail
      refine (c_l1In _ _ _ _).mono ?_
      rintro e w' ⟨rfl, rfl⟩
      rw [HLD.out]
      go_wp2_with fail
      go_loopw [10, 11, 28] (fun o p i wr => ∃ (k : Nat) (Ap : Option Addr) (cp : Nat), k ≤ n ∧ i = .int .i64 k ∧ p = .slice Ap (F k).2.length cp ∧ Seen w p (F k).2 ∧ Rows wr w2.heap.size wr.heap.size o (F k).1 ∧ Below w.heap.size w wr ∧ Below w2.heap.size w2 wr) (fun _ _ i _ => n - (RowKit.intOf i).toNat)
      case atStart => exact ⟨0, none, 0, Nat.zero_le _, rfl, by rw [H0.out]; rfl, by rw [H0.out]; exact Row.seen (Row.nil _ 0), by rw [H0.out]; exact Rows.nil _ _ _, HB2.out, Below.refl _ _⟩
      case round =>
        obtain ⟨k, Ap, cp, hk, rfl, rfl, hsp, hr, hb, hb2⟩ := hrel
        have HSP := Lib.hid hsp
        have HB := Lib.hid hb
        have HBG := Lib.hid hb2
        obtain ⟨AO, CO, hso⟩ := hr.shape
        subst hso
        have HR := Lib.hid hr
        clear hsp hr hb hb2
        by_cases hlt : k < n
        · have HXr := Lib.hid (HX2.out.below HBG.out)
          obtain ⟨x0, x1, x2, x3, x4, x5⟩ : _ ∧ _ ∧ _ ∧ _ ∧ _ ∧ _ := ⟨HXr.out.c0, HXr.out.c1, HXr.out.c2, HXr.out.c3, HXr.out.c4, HXr.out.c5⟩
          obtain ⟨b, off, A', c', rfl, hbl, q0', hse⟩ := HPs.out.at_ (k := k) (by rw [HNN.out]; exact hlt)
          have q0 : wr.cell? ⟨b, off + k, none⟩ = some (.slice A' (pss.getD k []).length c') := (HB.out.cell (p := ⟨b, off + k, none⟩) hbl).trans q0'
          have HSE := Lib.hid hse
          have CL := Lib.hid (fun q q2 w1 => CLk.out k q q2 w1 hlt)
          have CM := Lib.hid (fun q w1 => CMk.out k q w1 hlt)
          have hk8 : k < 8 := by have := HN8.out; omega
          obtain ⟨hlp, hlp2⟩ := HLP.out k hlt
          have hlq := HLQ.out k hk
          have HSk_ := Lib.hid (HSk.out k)
          have HKp_ := Lib.hid (HKp.out k hlt)
          obtain ⟨nq, hlen⟩ : ∃ nq, (F k).1.length = nq := ⟨_, rfl⟩
          have hnq : nq ≤ 8 := by have := HLn.out k; omega
          have b1 : (0 : Int) ≤ (k : Int) := by omega
          have b2 : (k : Int) < (n : Int) := by omega
          have hw : wrap64 ((n : Int) - 1) = (n : Int) - 1 := IntWalk.wrap64_in _ (by have := HN8.out; omega)
          rw [hlen] at HR ⊢
          have HLE := Lib.hid hlen
          clear hse q0' hlen
          generalize pss.getD k [] = ys at *
          generalize sumM ts gs (lessL ys (F k).2) = T at *
          generalize sumT ts (lessL ys (F k).2) = S at *
          by_cases hc : k + 1 < n
          case neg =>
            have d1 : ¬ ((k : Int) < (n : Int) - 1) := by omega
            have HKE := HKp_.out (by omega)
            have ON := Lib.hid (HKE.1)
            have E2 := Lib.hid (HKE.2)
            clear HKE
            have KE : Hid (∀ u, Below wr.heap.size wr u → Below w.heap.size w u ∧ (u.cell? ⟨w.heap.size, 0, none⟩ = some (.int .i64 x) ∧ u.cell? ⟨w.heap.size, 1, none⟩ = some (.int .i64 y) ∧ u.cell? ⟨w.heap.size, 2, none⟩ = some (.int .i64 z) ∧ u.cell? ⟨w.heap.size, 3, none⟩ = some (.slice A1 ts.length c1) ∧ u.cell? ⟨w.heap.size, 4, none⟩ = some (.slice A2 gs.length c2) ∧ u.cell? ⟨w.heap.size, 5, none⟩ = some (.slice A3 rs.length c3))) := fun u hu => by
              have hX := HXr.out.below hu
              exact ⟨HB.out.trans (hu.mono HB.out.size), hX.c0, hX.c1, hX.c2, hX.c3, hX.c4, hX.c5⟩
            have KD : Hid (Below wr.heap.size wr wr.drew) := (Below.refl _ _).drew
            go_wp2_with fail
            go_region_held3 (fun u => u.cell? ⟨w.heap.size, 0, none⟩ = some (.int .i64 x) ∧ u.cell? ⟨w.heap.size, 1, none⟩ = some (.int .i64 y) ∧ u.cell? ⟨w.heap.size, 2, none⟩ = some (.int .i64 z) ∧ u.cell? ⟨w.heap.size, 3, none⟩ = some (.slice A1 ts.length c1) ∧ u.cell? ⟨w.heap.size, 4, none⟩ = some (.slice A2 gs.length c2) ∧ u.cell? ⟨w.heap.size, 5, none⟩ = some (.slice A3 rs.length c3)) (first | with_reducible exact (KE.out _ KD.out).2 | with_reducible exact (KE.out _ HU4.out).2 | with_reducible exact (KE.out _ HU5.out).2)
              (first | (go_at_call 72; refine (CL.out _ _ _ (HSE.out.below (KE.out _ KD.out).1) (HSP.out.below (KE.out _ KD.out).1)).mono ?_; rintro e w4 ⟨p4, rfl, hr4, hb⟩; have HU4 : Hid (Below wr.heap.size wr w4) := KD.out.trans (hb.mono KD.out.size); have HR4 := Lib.hid hr4; clear hb hr4)
                     | (go_at_call 67; refine (CM.out _ _ (KE.out _ HU4.out).1 HR4.out.seen).mono ?_; rintro e w5 ⟨rfl, hb⟩; have HU5 : Hid (Below wr.heap.size wr w5) := HU4.out.trans (hb.mono HU4.out.size); clear hb))
            have HB5 := Lib.hid (KE.out _ HU5.out).1
            have HBG5 := Lib.hid (HBG.out.trans (HU5.out.mono HBG.out.size))
            have HR5 := Lib.hid (HR.out.below HU5.out (Nat.le_refl _))
            have hs5z := HU5.out.size
            clear KE KD CL CM HXr HR4 HU4
            have HC3 := Lib.hid (c_l1Own ys _ w5 (by omega) hlp (HSE.out.below HB5.out))
            go_wp2_with fail
            refine HC3.out.mono ?_
            rintro e wi ⟨p, rfl, hpr, hb3⟩
            obtain ⟨AK, CK, hps⟩ := hpr.shape
            subst hps
            have HRK := Lib.hid hpr
            have HBw : Hid (Below w2.heap.size w2 wi) := HBG5.out.trans (hb3.mono HBG5.out.size)
            have hbr_ := Lib.hid HBG5.out.size
            have hro_ := Lib.hid (Nat.le_trans hs5z hb3.size)
            have HRo := Lib.hid (HR5.out.below hb3 hs5z)
            clear hpr hb3
            have hlen : (F k).1.length = nq := HLE.out
            have hbb : Below wi.heap.size wi (wi.alloc (.cells #[.slice AK ys.length CK] 35)) := (Below.refl _ _).alloc (Nat.le_refl _) _
            have HP6 := Lib.hid ((HRK.out.mono (Nat.le_trans hbr_.out (Nat.le_refl _))).below hbb)
            have HR6 := Lib.hid (HRo.out.below hbb hro_.out)
            have HB6 : Hid (Below w2.heap.size w2 (wi.alloc (.cells #[.slice AK ys.length CK] 35))) := HBw.out.trans (hbb.mono HBw.out.size)
            have hpo : Hid (∀ m, (Value.slice AK ys.length CK).ownBlock = some m → wr.heap.size ≤ m) := fun m hm => Nat.le_trans (hs5z) (World.ownsRow.lt HRK.out m hm).1
            clear hbb
            obtain ⟨vs, hv6⟩ := HR6.out
            have HV6 := Lib.hid hv6
            clear hv6
            have sz5 := HBw.out.size
            have HLN := Lib.hid hlen
            clear hlen
            have hown : Hid ((wi.alloc (.cells #[.slice AK ys.length CK] 35)).ownsRow w2.heap.size 35 1 (.slice AO nq CO) nq vs) := by
              have := HV6.out.own
              rw [HLN.out] at this
              exact this
            go_wp2_with (at_builtin; refine wpList_append_own _ rfl _ _ 22 rfl w2.heap.size 35 j0 (.slice none 0 0) 1 24 Try.underlying22 HJ.out hy0 hy1 hy2 rfl (by decide) _ _ _ rfl hown.out ⟨wi.heap.size, 0, none⟩ 1 1 [.slice AK ys.length CK] rfl rfl ?e1 ?e2 ?e3 ?e4 ?e5 ?_)
            case e1 =>
              intro q u hq
              match q, hq with
              | 0, hq => simp at hq; subst hq; simp [Addr.add]
            case e2 => intro u hu; simp at hu; subst hu; rfl
            case e3 => unfold maxLen; omega
            case e4 => omega
            case e5 => simp; omega
            intro v' w7 hown' hgrow _
            have N1 : Hid (Rows w7 w2.heap.size w7.heap.size v' _) := ⟨_, by
              have := HV6.out.push HP6.out (fun m hm => hpo.out m hm) (by rw [HLN.out]; exact hown') hgrow
              rw [ON.out] at this
              exact this⟩
            have NR := Lib.hid (World.ownsRow.kept HP6.out hgrow (HV6.out.apart_row HP6.out))
            have N2 : Hid (Below w2.heap.size w2 w7) := HB6.out.grown hgrow (by simp; omega) (fun g hg => (World.ownsRow.lt hown.out g hg).1)
            clear hown' hgrow
            have N3 : Hid (Below w.heap.size w w7) := HB2.out.trans (N2.out.mono HB2.out.size)
            go_wp2
            go_roundw
            case rel => exact ⟨k + 1, A', c', by omega, by go_num, by rw [E2.out], by rw [E2.out]; exact HSE.out, N1.out, N3.out, N2.out⟩
            case measure => simp [RowKit.intOf]; omega
          case pos =>
            have d1 : (k : Int) < (n : Int) - 1 := by omega
            by_cases hd : S < least
            case neg =>
              have HKE := HKp_.out (by omega)
              have ON := Lib.hid (HKE.1)
              have E2 := Lib.hid (HKE.2)
              clear HKE
              have KE : Hid (∀ u, Below wr.heap.size wr u → Below w.heap.size w u ∧ (u.cell? ⟨w.heap.size, 0, none⟩ = some (.int .i64 x) ∧ u.cell? ⟨w.heap.size, 1, none⟩ = some (.int .i64 y) ∧ u.cell? ⟨w.heap.size, 2, none⟩ = some (.int .i64 z) ∧ u.cell? ⟨w.heap.size, 3, none⟩ = some (.slice A1 ts.length c1) ∧ u.cell? ⟨w.heap.size, 4, none⟩ = some (.slice A2 gs.length c2) ∧ u.cell? ⟨w.heap.size, 5, none⟩ = some (.slice A3 rs.length c3))) := fun u hu => by
                have hX := HXr.out.below hu
                exact ⟨HB.out.trans (hu.mono HB.out.size), hX.c0, hX.c1, hX.c2, hX.c3, hX.c4, hX.c5⟩
              have KD : Hid (Below wr.heap.size wr wr.drew) := (Below.refl _ _).drew
              go_wp2_with fail
              go_region_held3 (fun u => u.cell? ⟨w.heap.size, 0, none⟩ = some (.int .i64 x) ∧ u.cell? ⟨w.heap.size, 1, none⟩ = some (.int .i64 y) ∧ u.cell? ⟨w.heap.size, 2, none⟩ = some (.int .i64 z) ∧ u.cell? ⟨w.heap.size, 3, none⟩ = some (.slice A1 ts.length c1) ∧ u.cell? ⟨w.heap.size, 4, none⟩ = some (.slice A2 gs.length c2) ∧ u.cell? ⟨w.heap.size, 5, none⟩ = some (.slice A3 rs.length c3)) (first | with_reducible exact (KE.out _ KD.out).2 | with_reducible exact (KE.out _ HU4.out).2 | with_reducible exact (KE.out _ HU5.out).2)
                (first | (go_at_call 72; refine (CL.out _ _ _ (HSE.out.below (KE.out _ KD.out).1) (HSP.out.below (KE.out _ KD.out).1)).mono ?_; rintro e w4 ⟨p4, rfl, hr4, hb⟩; have HU4 : Hid (Below wr.heap.size wr w4) := KD.out.trans (hb.mono KD.out.size); have HR4 := Lib.hid hr4; clear hb hr4)
                       | (go_at_call 67; refine (CM.out _ _ (KE.out _ HU4.out).1 HR4.out.seen).mono ?_; rintro e w5 ⟨rfl, hb⟩; have HU5 : Hid (Below wr.heap.size wr w5) := HU4.out.trans (hb.mono HU4.out.size); clear hb))
              have HB5 := Lib.hid (KE.out _ HU5.out).1
              have HBG5 := Lib.hid (HBG.out.trans (HU5.out.mono HBG.out.size))
              have HR5 := Lib.hid (HR.out.below HU5.out (Nat.le_refl _))
              have hs5z := HU5.out.size
              clear KE KD CL CM HXr HR4 HU4
              have HC3 := Lib.hid (c_l1Own ys _ w5 (by omega) hlp (HSE.out.below HB5.out))
              go_wp2_with fail
              refine HC3.out.mono ?_
              rintro e wi ⟨p, rfl, hpr, hb3⟩
              obtain ⟨AK, CK, hps⟩ := hpr.shape
              subst hps
              have HRK := Lib.hid hpr
              have HBw : Hid (Below w2.heap.size w2 wi) := HBG5.out.trans (hb3.mono HBG5.out.size)
              have hbr_ := Lib.hid HBG5.out.size
              have hro_ := Lib.hid (Nat.le_trans hs5z hb3.size)
              have HRo := Lib.hid (HR5.out.below hb3 hs5z)
              clear hpr hb3
              have hlen : (F k).1.length = nq := HLE.out
              have hbb : Below wi.heap.size wi (wi.alloc (.cells #[.slice AK ys.length CK] 35)) := (Below.refl _ _).alloc (Nat.le_refl _) _
              have HP6 := Lib.hid ((HRK.out.mono (Nat.le_trans hbr_.out (Nat.le_refl _))).below hbb)
              have HR6 := Lib.hid (HRo.out.below hbb hro_.out)
              have HB6 : Hid (Below w2.heap.size w2 (wi.alloc (.cells #[.slice AK ys.length CK] 35))) := HBw.out.trans (hbb.mono HBw.out.size)
              have hpo : Hid (∀ m, (Value.slice AK ys.length CK).ownBlock = some m → wr.heap.size ≤ m) := fun m hm => Nat.le_trans (hs5z) (World.ownsRow.lt HRK.out m hm).1
              clear hbb
              obtain ⟨vs, hv6⟩ := HR6.out
              have HV6 := Lib.hid hv6
              clear hv6
              have sz5 := HBw.out.size
              have HLN := Lib.hid hlen
              clear hlen
              have hown : Hid ((wi.alloc (.cells #[.slice AK ys.length CK] 35)).ownsRow w2.heap.size 35 1 (.slice AO nq CO) nq vs) := by
                have := HV6.out.own
                rw [HLN.out] at this
                exact this
              go_wp2_with (at_builtin; refine wpList_append_own _ rfl _ _ 22 rfl w2.heap.size 35 j0 (.slice none 0 0) 1 24 Try.underlying22 HJ.out hy0 hy1 hy2 rfl (by decide) _ _ _ rfl hown.out ⟨wi.heap.size, 0, none⟩ 1 1 [.slice AK ys.length CK] rfl rfl ?e1 ?e2 ?e3 ?e4 ?e5 ?_)
              case e1 =>
                intro q u hq
                match q, hq with
                | 0, hq => simp at hq; subst hq; simp [Addr.add]
              case e2 => intro u hu; simp at hu; subst hu; rfl
              case e3 => unfold maxLen; omega
              case e4 => omega
              case e5 => simp; omega
              intro v' w7 hown' hgrow _
              have N1 : Hid (Rows w7 w2.heap.size w7.heap.size v' _) := ⟨_, by
                have := HV6.out.push HP6.out (fun m hm => hpo.out m hm) (by rw [HLN.out]; exact hown') hgrow
                rw [ON.out] at this
                exact this⟩
              have NR := Lib.hid (World.ownsRow.kept HP6.out hgrow (HV6.out.apart_row HP6.out))
              have N2 : Hid (Below w2.heap.size w2 w7) := HB6.out.grown hgrow (by simp; omega) (fun g hg => (World.ownsRow.lt hown.out g hg).1)
              clear hown' hgrow
              have N3 : Hid (Below w.heap.size w w7) := HB2.out.trans (N2.out.mono HB2.out.size)
              go_wp2
              go_roundw
              case rel => exact ⟨k + 1, A', c', by omega, by go_num, by rw [E2.out], by rw [E2.out]; exact HSE.out, N1.out, N3.out, N2.out⟩
              case measure => simp [RowKit.intOf]; omega
            case pos =>
              have E2 := Lib.hid (HSk_.out (by omega) (by omega))
              have KE : Hid (∀ u, Below wr.heap.size wr u → Below w.heap.size w u ∧ (u.cell? ⟨w.heap.size, 0, none⟩ = some (.int .i64 x) ∧ u.cell? ⟨w.heap.size, 1, none⟩ = some (.int .i64 y) ∧ u.cell? ⟨w.heap.size, 2, none⟩ = some (.int .i64 z) ∧ u.cell? ⟨w.heap.size, 3, none⟩ = some (.slice A1 ts.length c1) ∧ u.cell? ⟨w.heap.size, 4, none⟩ = some (.slice A2 gs.length c2) ∧ u.cell? ⟨w.heap.size, 5, none⟩ = some (.slice A3 rs.length c3))) := fun u hu => by
                have hX := HXr.out.below hu
                exact ⟨HB.out.trans (hu.mono HB.out.size), hX.c0, hX.c1, hX.c2, hX.c3, hX.c4, hX.c5⟩
              have KD : Hid (Below wr.heap.size wr wr.drew) := (Below.refl _ _).drew
              go_wp2_with fail
              go_region_held3 (fun u => u.cell? ⟨w.heap.size, 0, none⟩ = some (.int .i64 x) ∧ u.cell? ⟨w.heap.size, 1, none⟩ = some (.int .i64 y) ∧ u.cell? ⟨w.heap.size, 2, none⟩ = some (.int .i64 z) ∧ u.cell? ⟨w.heap.size, 3, none⟩ = some (.slice A1 ts.length c1) ∧ u.cell? ⟨w.heap.size, 4, none⟩ = some (.slice A2 gs.length c2) ∧ u.cell? ⟨w.heap.size, 5, none⟩ = some (.slice A3 rs.length c3)) (first | with_reducible exact (KE.out _ KD.out).2 | with_reducible exact (KE.out _ HU4.out).2 | with_reducible exact (KE.out _ HU5.out).2)
                (first | (go_at_call 72; refine (CL.out _ _ _ (HSE.out.below (KE.out _ KD.out).1) (HSP.out.below (KE.out _ KD.out).1)).mono ?_; rintro e w4 ⟨p4, rfl, hr4, hb⟩; have HU4 : Hid (Below wr.heap.size wr w4) := KD.out.trans (hb.mono KD.out.size); have HR4 := Lib.hid hr4; clear hb hr4)
                       | (go_at_call 67; refine (CM.out _ _ (KE.out _ HU4.out).1 HR4.out.seen).mono ?_; rintro e w5 ⟨rfl, hb⟩; have HU5 : Hid (Below wr.heap.size wr w5) := HU4.out.trans (hb.mono HU4.out.size); clear hb))
              have HB5 := Lib.hid (KE.out _ HU5.out).1
              have HBG5 := Lib.hid (HBG.out.trans (HU5.out.mono HBG.out.size))
              have HR5 := Lib.hid (HR.out.below HU5.out (Nat.le_refl _))
              have hs5z := HU5.out.size
              clear KE KD CL CM HXr HR4 HU4
              have HRu := Lib.hid (HR5.out.upR hs5z)
              rw [← HLE.out] at HRu ⊢
              go_wp2
              go_roundw
              case rel => exact ⟨k + 1, Ap, cp, by omega, by go_num, by rw [E2.out], by rw [E2.out]; exact HSP.out, by rw [E2.out]; exact HRu.out, HB5.out, HBG5.out⟩
              case measure => simp [RowKit.intOf]; omega
        · obtain rfl : k = n := by omega
          go_wp2
          go_ret2
          exact ⟨_, rfl, HR.out.mono HB2.out.size, HB.out⟩
theorem jo_row {xss pss : List (List Int)} {ts : List Int} {least : Int} (h : pitsB xss pss = true) : ∀ m, m ≤ pss.length → ∀ a, a ∈ (joS ts pss least m).1 → a.length ≤ 120
  | 0, _, a, ha => by cases ha
  | m + 1, hm, a, ha => by
    unfold joS at ha
    split at ha
    · exact jo_row h m (by omega) a ha
    · rcases List.mem_append.1 ha with e | e
      · exact jo_row h m (by omega) a e
      · rw [List.mem_singleton.1 e]
        exact (pits_short8 h (by omega)).2
theorem jo_all {xss pss : List (List Int)} {ts : List Int} {least : Int} (h : pitsB xss pss = true) : ∀ k, k < (joS ts pss least pss.length).1.length → ((joS ts pss least pss.length).1.getD k []).length ≤ 120 := fun k hk => by
  refine jo_row (least := least) (ts := ts) h pss.length (Nat.le_refl _) _ ?_
  rw [List.getD_eq_getElem?_getD, List.getElem?_eq_getElem hk]
  exact List.getElem_mem hk
theorem jp_facts (x y z : Int) (ts gs rs : List Int) (xss pss : List (List Int)) (least : Int) : (jpA x y z ts gs rs xss pss least).length ≤ 1048576 ∧ Hid (Short (jpA x y z ts gs rs xss pss least)) ∧ totN (jpA x y z ts gs rs xss pss least) (jpA x y z ts gs rs xss pss least).length ≤ 1048576 := by
  unfold jpA
  split
  · rename_i h
    unfold jpB at h
    rw [Bool.and_eq_true, Bool.and_eq_true] at h
    have hp := h.2.1
    have hl := pits_len hp
    refine rows_facts (by have := jo_len ts pss least pss.length; omega) fun k hk => ?_
    exact jo_all hp k hk
  · refine rows_facts (by simp) fun k hk => ?_
    simp at hk
end Go.Proofs.Ytlgbhemjckahhaa
