/-
  Contracts: ModelText, the exported functions.
-/
import Derived.Test.YtgibkjjjnfjbkaaDoorTX2
namespace Go.Proofs.YtgibkjjjnfjbkaaDoor
open Go.RowKit
set_option linter.unusedVariables false

theorem mt_no {x y z : Int} {ts gs rs : List Int} (h : moB x y z ts gs rs = false) : mtS x y z ts gs rs = ⟨#[]⟩ := by unfold mtS; rw [h]; rfl
theorem mt_yes {x y z : Int} {ts gs rs : List Int} (h : moB x y z ts gs rs = true) : mtS x y z ts gs rs = mtT x y z ts gs rs ts.length := by unfold mtS; rw [h]; rfl
theorem Box6.under {w w' : World} {b N : Nat} {x y z : Int} {v1 v2 v3 : Value} (h : Box6 w b x y z v1 v2 v3) (hb : Below N w w') (hN : b < N) : Box6 w' b x y z v1 v2 v3 :=
  ⟨Nat.lt_of_lt_of_le h.lt hb.size, by rw [hb.cell (p := ⟨b, 0, none⟩) hN]; exact h.c0, by rw [hb.cell (p := ⟨b, 1, none⟩) hN]; exact h.c1, by rw [hb.cell (p := ⟨b, 2, none⟩) hN]; exact h.c2,
    by rw [hb.cell (p := ⟨b, 3, none⟩) hN]; exact h.c3, by rw [hb.cell (p := ⟨b, 4, none⟩) hN]; exact h.c4, by rw [hb.cell (p := ⟨b, 5, none⟩) hN]; exact h.c5⟩

set_option maxHeartbeats 16000000 in
set_option maxRecDepth 100000 in
theorem c_ModelText (x y z : Int) (v1 v2 v3 : Value) (ts gs rs : List Int) (w : World) (l1 : ts.length ≤ 4000000) (l2 : gs.length ≤ 4000000) (l3 : rs.length ≤ 4000000) (h : Look w v1 v2 v3 ts gs rs) (htb : TB w) :
    Calls Tryd.prog 15 #[.agg #[.int .i64 x, .int .i64 y, .int .i64 z, v1, v2, v3]] w fun e w' => e = .returned (.tuple #[.string (mtS x y z ts gs rs), .bool (moB x y z ts gs rs)]) ∧ Below w.heap.size w w' := by
  have H := Lib.hid h
  have HTB := Lib.hid htb
  clear htb
  cases hm : moB x y z ts gs rs
  · rw [mt_no hm]
    obtain ⟨A1, c1, rfl⟩ := h.t.shape
    obtain ⟨A2, c2, rfl⟩ := h.g.shape
    obtain ⟨A3, c3, rfl⟩ := h.r.shape
    clear h
    have HB0 : Hid (Below w.heap.size w (w.alloc (.cells #[.int .i64 x, .int .i64 y, .int .i64 z, .slice A1 ts.length c1, .slice A2 gs.length c2, .slice A3 rs.length c3] 26))) := (Below.refl _ _).alloc (Nat.le_refl _) _
    have CM := Lib.hid (fun u hu => c_IsModel x y z _ _ _ ts gs rs u l1 l2 l3 (H.out.below hu))
    rw [hm] at CM
    clear hm
    go_enter Tryd.func15, Tryd.ntmps15
    go_wp2_with fail
    generalize w.alloc (.cells #[.int .i64 x, .int .i64 y, .int .i64 z, .slice A1 ts.length c1, .slice A2 gs.length c2, .slice A3 rs.length c3] 26) = W0 at *
    refine (CM.out _ HB0.out).mono ?_
    rintro e w1 ⟨rfl, hb⟩
    have HB1 : Hid (Below w.heap.size w w1) := HB0.out.trans (hb.mono HB0.out.size)
    clear hb
    go_wp2
    go_ret2
    exact ⟨rfl, HB1.out⟩
  · rw [mt_yes hm]
    have ho := mtOk hm
    obtain ⟨A1, c1, rfl⟩ := h.t.shape
    obtain ⟨A2, c2, rfl⟩ := h.g.shape
    obtain ⟨A3, c3, rfl⟩ := h.r.shape
    have CM := Lib.hid (fun u hu => c_IsModel x y z _ _ _ ts gs rs u l1 l2 l3 (H.out.below hu))
    rw [hm] at CM
    obtain ⟨N, hN⟩ : ∃ N, ts.length = N := ⟨_, rfl⟩
    rw [hN] at ho
    rw [ho.t, ho.g, ho.r] at CM ⊢
    clear hN hm
    have E1 : Hid (∀ k, k < N → ∃ b off, A1 = some ⟨b, off, none⟩ ∧ b < w.heap.size ∧ w.cell? ⟨b, off + k, none⟩ = some (.int .i64 (ts.getD k 0))) := fun k hk => by
      obtain ⟨b, off, c, e, hb, hc⟩ := h.t.at_ (k := k) (by rw [ho.t]; exact hk)
      exact ⟨b, off, by injection e, hb, hc⟩
    have E2 : Hid (∀ k, k < N → ∃ b off, A2 = some ⟨b, off, none⟩ ∧ b < w.heap.size ∧ w.cell? ⟨b, off + k, none⟩ = some (.int .i64 (gs.getD k 0))) := fun k hk => by
      obtain ⟨b, off, c, e, hb, hc⟩ := h.g.at_ (k := k) (by rw [ho.g]; exact hk)
      exact ⟨b, off, by injection e, hb, hc⟩
    have E3 : Hid (∀ k, k < N → ∃ b off, A3 = some ⟨b, off, none⟩ ∧ b < w.heap.size ∧ w.cell? ⟨b, off + k, none⟩ = some (.int .i64 (rs.getD k 0))) := fun k hk => by
      obtain ⟨b, off, c, e, hb, hc⟩ := h.r.at_ (k := k) (by rw [ho.r]; exact hk)
      exact ⟨b, off, by injection e, hb, hc⟩
    have HX0 : Hid (Box6 (w.alloc (.cells #[.int .i64 x, .int .i64 y, .int .i64 z, .slice A1 N c1, .slice A2 N c2, .slice A3 N c3] 26)) w.heap.size x y z (.slice A1 N c1) (.slice A2 N c2) (.slice A3 N c3)) := Box6.new _ _ _ _ _ _ _ _
    have HB0 : Hid (Below w.heap.size w (w.alloc (.cells #[.int .i64 x, .int .i64 y, .int .i64 z, .slice A1 N c1, .slice A2 N c2, .slice A3 N c3] 26))) := (Below.refl _ _).alloc (Nat.le_refl _) _
    have CJ0 : Hid (∀ u, Below w.heap.size w u → Calls Tryd.prog 34 #[.agg #[.int .i64 x, .int .i64 y, .int .i64 z], .string ⟨#[120]⟩] u fun e w' => e = .returned (.string (tri3 x y z ⟨#[120]⟩)) ∧ Below u.heap.size u w') := fun u hu => c_joinNumbersT x y z ⟨#[120]⟩ rfl u ho.small (tabIs_below HTB.out hu)
    have CZ : Hid (∀ u, Calls Tryd.prog 35 #[.agg #[.int .i64 x, .int .i64 y, .int .i64 z]] u fun e w' => e = .returned (.agg #[.int .i64 x, .int .i64 y, .int .i64 z]) ∧ Below u.heap.size u w') := fun u => c_sizesOf x y z u
    have hs0 := tri3_size ho.small (sep := ⟨#[120]⟩) rfl
    have a1 := addsT ⟨#[109, 111, 100, 101, 108, 32]⟩ (tri3 x y z ⟨#[120]⟩) (by show 6 + _ ≤ _; omega)
    have a2 := addsT (⟨#[109, 111, 100, 101, 108, 32]⟩ ++ tri3 x y z ⟨#[120]⟩) ⟨#[10]⟩ (by rw [ByteArray.size_append]; show 6 + _ + 1 ≤ _; omega)
    have HSm : Hid (∀ k, k < N → Small3 (ts.getD k 0) (gs.getD k 0) (rs.getD k 0)) := fun k hk => ho.small_at hk
    have HT0 : Hid (mtT x y z ts gs rs 0 = ⟨#[109, 111, 100, 101, 108, 32]⟩ ++ tri3 x y z ⟨#[120]⟩ ++ ⟨#[10]⟩) := rfl
    have HTs : Hid (∀ k, mtT x y z ts gs rs (k + 1) = mtT x y z ts gs rs k ++ (tri3 (ts.getD k 0) (gs.getD k 0) (rs.getD k 0) ⟨#[32]⟩ ++ ⟨#[10]⟩)) := fun k => rfl
    have HTz : Hid (∀ k, k ≤ N → (mtT x y z ts gs rs k).size ≤ 40 + 40 * k) := mtT_size ho
    have hn := ho.n
    clear h ho hs0
    generalize mtT x y z ts gs rs = T at *
    generalize tri3 x y z ⟨#[120]⟩ = G at *
    have CW : Hid (∀ (b : Nat) (l : List UInt8) (s : ByteArray) (u : World), Build b b l u → l.length + s.size ≤ 1000000 → Calls Tryd.prog 33 #[.pointer (some ⟨b, 0, none⟩), .string s] u fun e w' => e = .returned (.tuple #[.int .i64 s.size, .nilIface]) ∧ (Build b b (l ++ s.data.toList) w' ∧ Below b u w' ∧ Lib.OthersKept 5 (some b) u w')) := fun b l s u hu hs => c_WriteString b b l s u hu hs (Nat.le_of_lt hu.lt)
    have HS0 := Lib.hid (HTz.out 0 (Nat.zero_le _))
    rw [HT0.out] at HS0
    have HD0 : Hid ((⟨#[109, 111, 100, 101, 108, 32]⟩ ++ G ++ ⟨#[10]⟩ : ByteArray) = T 0) := HT0.out.symm
    rw [HD0.out] at a2
    go_enter Tryd.func15, Tryd.ntmps15
    go_wp2_with fail
    generalize w.alloc (.cells #[.int .i64 x, .int .i64 y, .int .i64 z, .slice A1 N c1, .slice A2 N c2, .slice A3 N c3] 26) = W0 at *
    refine (CM.out _ HB0.out).mono ?_
    rintro e w1 ⟨rfl, hb⟩
    have HX1 := Lib.hid (HX0.out.below hb)
    have HB1 : Hid (Below w.heap.size w w1) := HB0.out.trans (hb.mono HB0.out.size)
    clear hb
    have HBd2 : Hid (Build w1.heap.size w1.heap.size [] (w1.alloc (.cells #[.pointer none, .slice none 0 0] 59))) := Lib.IsBuilderF.of (Lib.fresh_isBuilder _ _ w1)
    have HB2 : Hid (Below w.heap.size w (w1.alloc (.cells #[.pointer none, .slice none 0 0] 59))) := HB1.out.alloc HB1.out.size _
    have HX2 := Lib.hid (HX1.out.below ((Below.refl _ _).alloc (Nat.le_refl _) (.cells #[.pointer none, .slice none 0 0] 59)))
    have lb : w.heap.size < w1.heap.size := HX1.out.lt
    have u0 := HX1.out.c0
    have u1 := HX1.out.c1
    have u2 := HX1.out.c2
    go_wp2_with fail
    generalize w1.alloc (.cells #[.pointer none, .slice none 0 0] 59) = w2 at *
    generalize w1.heap.size = b at *
    clear u0 u1 u2
    refine (CZ.out _).mono ?_
    rintro e w3 ⟨rfl, hb⟩
    have HX3 := Lib.hid (HX2.out.below hb)
    have HB3 : Hid (Below w.heap.size w w3) := HB2.out.trans (hb.mono HB2.out.size)
    have HBd3 := Lib.hid (HBd2.out.below hb)
    clear hb
    go_wp2_with fail
    refine (CJ0.out _ HB3.out).mono ?_
    rintro e w4 ⟨rfl, hb⟩
    have HX4 := Lib.hid (HX3.out.below hb)
    have HB4 : Hid (Below w.heap.size w w4) := HB3.out.trans (hb.mono HB3.out.size)
    have HBd4 := Lib.hid (HBd3.out.below hb)
    clear hb
    go_wp2_with fail
    refine (CW.out b [] (T 0) _ HBd4.out (by have := HTz.out 0 (Nat.zero_le _); show 0 + (T 0).size ≤ 1000000; omega)).mono ?_
    rintro e w5 ⟨rfl, hB5, hb5, _⟩
    rw [List.nil_append] at hB5
    have HX5 := Lib.hid (HX4.out.under hb5 lb)
    have HB5 : Hid (Below w.heap.size w w5) := HB4.out.trans (hb5.mono (Nat.le_of_lt lb))
    have HBd5 := Lib.hid hB5
    clear hB5 hb5 a1 a2
    have y3 := HX5.out.c3
    generalize (T 0).size = s0 at *
    go_wp2_with fail
    clear y3
    go_loopw [19] (fun i wr => ∃ k : Nat, k ≤ N ∧ i = .int .i64 k ∧ Build b b (T k).data.toList wr ∧ Box6 wr w.heap.size x y z (.slice A1 N c1) (.slice A2 N c2) (.slice A3 N c3) ∧ Below w.heap.size w wr) (fun i _ => N - (intOf i).toNat)
    case atStart => exact ⟨0, Nat.zero_le _, rfl, HBd5.out, HX5.out, HB5.out⟩
    case round =>
      obtain ⟨k, hk, rfl, hbd, hx, hb⟩ := hrel
      have HBd := Lib.hid hbd
      have HX := Lib.hid hx
      have HB := Lib.hid hb
      clear hbd hx hb
      by_cases hlt : k < N
      · obtain ⟨b1, o1, rfl, l1, q1⟩ := E1.out k hlt
        obtain ⟨b2, o2, rfl, l2, q2⟩ := E2.out k hlt
        obtain ⟨b3, o3, rfl, l3, q3⟩ := E3.out k hlt
        have hsm := HSm.out k hlt
        have hs3 := tri3_size hsm (sep := ⟨#[32]⟩) rfl
        have d5 := addsT (tri3 (ts.getD k 0) (gs.getD k 0) (rs.getD k 0) ⟨#[32]⟩) ⟨#[10]⟩ (by show _ + 1 ≤ _; omega)
        have HTk := Lib.hid (HTs.out k)
        have CJ : Hid (∀ u, Below w.heap.size w u → Calls Tryd.prog 34 #[.agg #[.int .i64 (ts.getD k 0), .int .i64 (gs.getD k 0), .int .i64 (rs.getD k 0)], .string ⟨#[32]⟩] u fun e w' => e = .returned (.string (tri3 (ts.getD k 0) (gs.getD k 0) (rs.getD k 0) ⟨#[32]⟩)) ∧ Below u.heap.size u w') := fun u hu => c_joinNumbersT _ _ _ ⟨#[32]⟩ rfl u hsm (tabIs_below HTB.out hu)
        have CWk : Hid (∀ u, Build b b (T k).data.toList u → Calls Tryd.prog 33 #[.pointer (some ⟨b, 0, none⟩), .string (tri3 (ts.getD k 0) (gs.getD k 0) (rs.getD k 0) ⟨#[32]⟩ ++ ⟨#[10]⟩)] u fun e w' => (∃ s1 : Int, e = .returned (.tuple #[.int .i64 s1, .nilIface])) ∧ Build b b (T (k + 1)).data.toList w' ∧ Below b u w') := fun u hu => by
          refine (CW.out b _ _ u hu ?_).mono ?_
          · have h1 := HTz.out k hk
            rw [ByteArray.size_append]
            show (T k).data.toList.length + (_ + 1) ≤ _
            have h2 : (T k).data.toList.length = (T k).size := Array.length_toList
            omega
          · rintro e w' ⟨he, hB, hb, _⟩
            refine ⟨⟨_, he⟩, ?_, hb⟩
            rw [HTk.out]
            simpa using hB
        have KE : Hid (∀ u, Below b wr u → u.cell? ⟨w.heap.size, 3, none⟩ = some (.slice (some ⟨b1, o1, none⟩) N c1) ∧ u.cell? ⟨w.heap.size, 4, none⟩ = some (.slice (some ⟨b2, o2, none⟩) N c2) ∧ u.cell? ⟨w.heap.size, 5, none⟩ = some (.slice (some ⟨b3, o3, none⟩) N c3) ∧ u.cell? ⟨b1, o1 + k, none⟩ = some (.int .i64 (ts.getD k 0)) ∧ u.cell? ⟨b2, o2 + k, none⟩ = some (.int .i64 (gs.getD k 0)) ∧ u.cell? ⟨b3, o3 + k, none⟩ = some (.int .i64 (rs.getD k 0))) := fun u hu => by
          have hX := HX.out.under hu lb
          have hw := HB.out.trans (hu.mono (Nat.le_of_lt lb))
          exact ⟨hX.c3, hX.c4, hX.c5, by rw [hw.cell (p := ⟨b1, o1 + k, none⟩) l1]; exact q1, by rw [hw.cell (p := ⟨b2, o2 + k, none⟩) l2]; exact q2, by rw [hw.cell (p := ⟨b3, o3 + k, none⟩) l3]; exact q3⟩
        have KD : Hid (Below b wr wr.drew) := (Below.refl _ _).drew
        have LB : Hid (b ≤ wr.heap.size) := Nat.le_of_lt HBd.out.lt
        have BD : Hid (Build b b (T k).data.toList wr.drew) := HBd.out.below (Below.refl _ _).drew
        have WD : Hid (Below w.heap.size w wr.drew) := HB.out.drew
        have b0 : (0 : Int) ≤ (k : Int) := by omega
        have b9 : (k : Int) < (N : Int) := by omega
        clear hsm hs3 q1 q2 q3
        generalize tri3 (ts.getD k 0) (gs.getD k 0) (rs.getD k 0) ⟨#[32]⟩ = R3 at *
        generalize ts.getD k 0 = t at *
        generalize gs.getD k 0 = g at *
        generalize rs.getD k 0 = r at *
        go_wp2_with fail
        go_region_held3 (fun u => u.cell? ⟨w.heap.size, 3, none⟩ = some (.slice (some ⟨b1, o1, none⟩) N c1) ∧ u.cell? ⟨w.heap.size, 4, none⟩ = some (.slice (some ⟨b2, o2, none⟩) N c2) ∧ u.cell? ⟨w.heap.size, 5, none⟩ = some (.slice (some ⟨b3, o3, none⟩) N c3) ∧ u.cell? ⟨b1, o1 + k, none⟩ = some (.int .i64 t) ∧ u.cell? ⟨b2, o2 + k, none⟩ = some (.int .i64 g) ∧ u.cell? ⟨b3, o3 + k, none⟩ = some (.int .i64 r))
          (first | with_reducible exact KE.out _ KD.out | with_reducible exact KE.out _ K4.out | with_reducible exact KE.out _ K5.out)
          (first
            | (go_at_call 34; refine (CJ.out _ WD.out).mono ?_; rintro e w6 ⟨rfl, hb⟩; have K4 : Hid (Below b wr w6) := KD.out.trans (hb.mono LB.out); have B6 := Lib.hid (BD.out.below hb); clear hb)
            | (go_at_call 33; refine (CWk.out _ B6.out).mono ?_; rintro e w7 ⟨⟨s1, rfl⟩, hB, hb⟩; have K5 : Hid (Below b wr w7) := K4.out.trans hb; have B7 := Lib.hid hB; clear hb hB))
        have HX7 := Lib.hid (HX.out.under K5.out lb)
        have HB7 : Hid (Below w.heap.size w w7) := HB.out.trans (K5.out.mono (Nat.le_of_lt lb))
        go_wp2
        go_roundw
        case rel => exact ⟨k + 1, by omega, by go_num, B7.out, HX7.out, HB7.out⟩
        case measure => simp [intOf]; omega
      · obtain rfl : k = N := by omega
        have CS := Lib.hid (Tryd.Builder_String_any_k b b (T k).data.toList wr HBd.out (Nat.le_of_lt HBd.out.lt))
        have hT : Hid ((⟨(T k).data.toList.toArray⟩ : ByteArray) = T k) := by unfold Hid; simp
        rw [hT.out] at CS
        go_wp2_with fail
        refine CS.out.mono ?_
        rintro e w6 ⟨rfl, _, hb, _⟩
        have HB6 : Hid (Below w.heap.size w w6) := HB.out.trans (hb.mono (Nat.le_of_lt lb))
        clear hb
        go_wp2
        go_ret2
        exact ⟨rfl, HB6.out⟩
end Go.Proofs.YtgibkjjjnfjbkaaDoor
