/-
  Contracts: readModel of the program.
-/
import Derived.Test.YtgibkjjjnfjbkaaDoorLP2a
namespace Go.Proofs.YtgibkjjjnfjbkaaDoor
open Go.RowKit
set_option linter.unusedVariables false
set_option linter.unusedSimpArgs false

set_option maxHeartbeats 16000000 in
set_option maxRecDepth 100000 in
theorem c_readModel (ws : List (List UInt8)) (A : Option Addr) (w : World) (hl : ws.length ≤ 2000000) (hp : ∀ p, p ∈ ws → p.length ≤ 1999000) (hs : SeenW w (.slice A ws.length ws.length) ws) (hb : LB w) :
    Calls Tryd.prog 13 #[.slice A ws.length ws.length] w (GivesMB w (rmX 0 ws) (rmX 1 ws) (rmX 2 ws) (rmL 0 ws) (rmL 1 ws) (rmL 2 ws) (rmB ws)) := by
  obtain ⟨i0, hi0, hz0, hz1, hz2⟩ := info_parts int_info
  have HI := Lib.hid hi0
  have HS := Lib.hid hs
  have HLB := Lib.hid hb
  have HR0 : Hid (Six (w.alloc (.cells #[.int .i64 0, .int .i64 0, .int .i64 0, .slice none 0 0, .slice none 0 0, .slice none 0 0] 26)) w.heap.size 0 0 0 (.slice none 0 0) (.slice none 0 0) (.slice none 0 0)) := Six.new _ _ _ _ _ _ _ _
  have HB0 : Hid (Below w.heap.size w (w.alloc (.cells #[.int .i64 0, .int .i64 0, .int .i64 0, .slice none 0 0, .slice none 0 0, .slice none 0 0] 26))) := (Below.refl _ _).alloc (Nat.le_refl _) _
  have HPz : Hid (∀ k, k < ws.length → (ws.getD k []).length ≤ 1999000) := fun k hk => hp _ (by rw [List.getD_eq_getElem?_getD, List.getElem?_eq_getElem hk]; exact List.getElem_mem hk)
  have NO : Hid (rmB ws = false → rmX 0 ws = 0 ∧ rmX 1 ws = 0 ∧ rmX 2 ws = 0 ∧ rmL 0 ws = [] ∧ rmL 1 ws = [] ∧ rmL 2 ws = []) := fun h => ⟨(rm_no h).1 0, (rm_no h).1 1, (rm_no h).1 2, (rm_no h).2 0, (rm_no h).2 1, (rm_no h).2 2⟩
  clear hs hb hi0
  by_cases h2 : 2 ≤ ws.length
  · have h2' : ¬ (ws.length : Int) < 2 := by omega
    obtain ⟨bw, ow, rfl, hbw, q1'⟩ := HS.out.at_ (k := 1) (by omega)
    have q1 := (HB0.out.cell (p := ⟨bw, ow + 1, none⟩) hbw).trans q1'
    have hp1 := HPz.out 1 (by omega)
    have CS : Hid (∀ w1, Below w.heap.size w w1 → Calls Tryd.prog 27 #[.string ⟨(ws.getD 1 []).toArray⟩, .string ⟨#[120]⟩] w1 fun e w' => ∃ v, e = .returned v ∧ SeenW w' v (spx (ws.getD 1 [])) ∧ Below w1.heap.size w1 w') := fun w1 hb => c_SplitX _ w1 (by omega) (HLB.out.below hb)
    have CN : Hid (∀ q w1, Below w.heap.size w w1 → SeenW w1 q (spx (ws.getD 1 [])) → Calls Tryd.prog 26 #[q] w1 (GivesN w1 (rmS ws) (nuB (spx (ws.getD 1 []))))) := fun q w1 hb hq => c_readNumbers _ q w1 (by have := spx_le (ws.getD 1 []); omega) (fun p hp => by have := spx_piece hp; omega) hq (HLB.out.below hb)
    have HN0 : Hid (nuB (spx (ws.getD 1 [])) = false → rmB ws = false) := fun h => by unfold rmB; rw [h]; simp
    have HN1 : Hid ((rmS ws).length ≠ 3 → rmB ws = false) := fun h => by unfold rmB; rw [decide_eq_false h]; simp
    have HN2 : Hid (goodB (rmZ 0 ws) (rmZ 1 ws) (rmZ 2 ws) = false → rmB ws = false) := fun h => by unfold rmB; rw [h]; simp
    have HN3 : Hid ((ws.length : Int) ≠ 2 + 3 * rmN ws → rmB ws = false) := fun h => by unfold rmB; rw [decide_eq_false h]; simp
    have HN4 : Hid (nuB (ws.drop 2) = false → rmB ws = false) := fun h => by unfold rmB; rw [h]; simp
    have HN5 : Hid (nuB (spx (ws.getD 1 [])) = true → (rmS ws).length = 3 → goodB (rmZ 0 ws) (rmZ 1 ws) (rmZ 2 ws) = true → (ws.length : Int) = 2 + 3 * rmN ws → nuB (ws.drop 2) = true → rmB ws = true) := fun a b c d e => by unfold rmB; rw [a, decide_eq_true b, c, decide_eq_true d, e, decide_eq_true h2]; rfl
    clear q1' HPz
    generalize ws.getD 1 [] = p1 at *
    go_enter Tryd.func13, Tryd.ntmps13
    go_wp2_with fail
    generalize w.alloc (.cells #[.int .i64 0, .int .i64 0, .int .i64 0, .slice none 0 0, .slice none 0 0, .slice none 0 0] 26) = w0 at *
    refine (CS.out _ HB0.out).mono ?_
    rintro e w1 ⟨q, rfl, hq, hb⟩
    have HR1 := Lib.hid (HR0.out.below hb)
    have HB1 := Lib.hid (HB0.out.trans (hb.mono HB0.out.size))
    have HC1 := Lib.hid (CN.out q w1 HB1.out hq)
    obtain ⟨A1, c1, rfl⟩ := hq.shape
    clear hq hb q1
    go_wp2_with fail
    refine HC1.out.mono ?_
    rintro e w2 ⟨q2, rfl, hr2, hb⟩
    have HR2 := Lib.hid (HR1.out.below hb)
    have HB2 := Lib.hid (HB1.out.trans (hb.mono HB1.out.size))
    have HQ2 := Lib.hid (hr2.mono HB1.out.size)
    obtain ⟨A2, c2, rfl⟩ := hr2.shape
    clear hr2 hb CS CN HC1
    cases hn : nuB (spx p1)
    · have hf := HN0.out hn
      obtain ⟨n1, n2, n3, n4, n5, n6⟩ := NO.out hf
      clear HQ2
      have HF := Lib.hid (fin_none (r := w.heap.size) (Nat.le_refl _) HR2.out HB2.out)
      have y0 := HR2.out.c0
      have y1 := HR2.out.c1
      have y2 := HR2.out.c2
      have y3 := HR2.out.c3
      have y4 := HR2.out.c4
      have y5 := HR2.out.c5
      have y6 := HR2.out.fz
      have y7 := HR2.out.lt
      go_wp2
      unfold putM at HF
      generalize ((((((w2.setCell ⟨w.heap.size, 0, none⟩ (.int .i64 0)).setCell ⟨w.heap.size, 1, none⟩ (.int .i64 0)).setCell ⟨w.heap.size, 2, none⟩ (.int .i64 0)).setCell ⟨w.heap.size, 3, none⟩ (.slice none 0 0)).setCell ⟨w.heap.size, 4, none⟩ (.slice none 0 0)).setCell ⟨w.heap.size, 5, none⟩ (.slice none 0 0)) = we at *
      obtain ⟨P1, P2, P3⟩ := HF.out
      have f0 := P1.c0
      have f1 := P1.c1
      have f2 := P1.c2
      have f3 := P1.c3
      have f4 := P1.c4
      have f5 := P1.c5
      refine bodyPost_ret (v := .tuple #[.agg #[.int .i64 0, .int .i64 0, .int .i64 0, .slice none 0 0, .slice none 0 0, .slice none 0 0], .bool false]) (by simp [results, Tryd.results13, go_sem, f0, f1, f2, f3, f4, f5]) rfl (by rw [n1, n2, n3, n4, n5, n6, hf]; exact ⟨_, _, _, rfl, P2, P3⟩)
    · by_cases h3 : (rmS ws).length = 3
      · obtain ⟨g2, cg, e2, _, hg2⟩ := HQ2.out.form (by omega)
        simp at e2
        obtain ⟨rfl, rfl⟩ := e2
        have z0 := HQ2.out.cell 0 (by omega)
        have z1 := HQ2.out.cell 1 (by omega)
        have z2 := HQ2.out.cell 2 (by omega)
        have E0 : (rmS ws).getD 0 0 = rmZ 0 ws := rfl
        have E1 : (rmS ws).getD 1 0 = rmZ 1 ws := rfl
        have E2 : (rmS ws).getD 2 0 = rmZ 2 ws := rfl
        rw [E0] at z0
        rw [E1] at z1
        rw [E2] at z2
        rw [h3]
        have HR2d : Hid (Six w2.drew w.heap.size 0 0 0 (.slice none 0 0) (.slice none 0 0) (.slice none 0 0)) := HR2.out.below (Below.refl _ _).drew
        have HB2d : Hid (Below w.heap.size w w2.drew) := HB2.out.drew
        have HLN := Lib.hid h3
        clear E0 E1 E2 h3
        go_wp2_with fail
        go_region
        have HO3 : Hid (Six (w2.alloc (.cells #[.int .i64 (rmZ 0 ws), .int .i64 (rmZ 1 ws), .int .i64 (rmZ 2 ws), .slice none 0 0, .slice none 0 0, .slice none 0 0] 26)).drew w2.heap.size (rmZ 0 ws) (rmZ 1 ws) (rmZ 2 ws) (.slice none 0 0) (.slice none 0 0) (.slice none 0 0)) := (Six.new _ _ _ _ _ _ _ _).below (Below.refl _ _).drew
        have hb3 : Below w2.heap.size w2 (w2.alloc (.cells #[.int .i64 (rmZ 0 ws), .int .i64 (rmZ 1 ws), .int .i64 (rmZ 2 ws), .slice none 0 0, .slice none 0 0, .slice none 0 0] 26)).drew := ((Below.refl _ _).alloc (Nat.le_refl _) _).drew
        have HR3 := Lib.hid (HR2.out.below hb3)
        have HB3 := Lib.hid (HB2.out.trans (hb3.mono HB2.out.size))
        have hL2 : w.heap.size < w2.heap.size := HR2.out.lt
        clear hb3 z0 z1 z2 HQ2 HR2d HB2d
        generalize (w2.alloc (.cells #[.int .i64 (rmZ 0 ws), .int .i64 (rmZ 1 ws), .int .i64 (rmZ 2 ws), .slice none 0 0, .slice none 0 0, .slice none 0 0] 26)).drew = w3 at *
        generalize w2.heap.size = L at *
        clear HR2 HB2 HB1 HR1
        have o0 := HO3.out.c0
        have o1 := HO3.out.c1
        have o2 := HO3.out.c2
        go_wp2_with fail
        refine (c_IsGrid _ _ _ _).mono ?_
        rintro e w4 ⟨rfl, hb⟩
        have HR4 := Lib.hid (HR3.out.below hb)
        have HB4 := Lib.hid (HB3.out.trans (hb.mono HB3.out.size))
        have HO4 := Lib.hid (HO3.out.below hb)
        clear hb o0 o1 o2 HR3 HB3 HO3
        cases hg : goodB (rmZ 0 ws) (rmZ 1 ws) (rmZ 2 ws)
        · have hf := HN2.out hg
          obtain ⟨n1, n2, n3, n4, n5, n6⟩ := NO.out hf
          have HF := Lib.hid (fin_none (r := w.heap.size) (Nat.le_refl _) HR4.out HB4.out)
          have y0 := HR4.out.c0
          have y1 := HR4.out.c1
          have y2 := HR4.out.c2
          have y3 := HR4.out.c3
          have y4 := HR4.out.c4
          have y5 := HR4.out.c5
          have y6 := HR4.out.fz
          have y7 := HR4.out.lt
          go_wp2
          unfold putM at HF
          generalize ((((((w4.setCell ⟨w.heap.size, 0, none⟩ (.int .i64 0)).setCell ⟨w.heap.size, 1, none⟩ (.int .i64 0)).setCell ⟨w.heap.size, 2, none⟩ (.int .i64 0)).setCell ⟨w.heap.size, 3, none⟩ (.slice none 0 0)).setCell ⟨w.heap.size, 4, none⟩ (.slice none 0 0)).setCell ⟨w.heap.size, 5, none⟩ (.slice none 0 0)) = we at *
          obtain ⟨P1, P2, P3⟩ := HF.out
          have f0 := P1.c0
          have f1 := P1.c1
          have f2 := P1.c2
          have f3 := P1.c3
          have f4 := P1.c4
          have f5 := P1.c5
          refine bodyPost_ret (v := .tuple #[.agg #[.int .i64 0, .int .i64 0, .int .i64 0, .slice none 0 0, .slice none 0 0, .slice none 0 0], .bool false]) (by simp [results, Tryd.results13, go_sem, f0, f1, f2, f3, f4, f5]) rfl (by rw [n1, n2, n3, n4, n5, n6, hf]; exact ⟨_, _, _, rfl, P2, P3⟩)
        · obtain ⟨g1, g2', g3, g4, g5, g6, g7⟩ := good_true hg
          have CC : Hid (∀ u, Calls Tryd.prog 29 #[.agg #[.int .i64 (rmZ 0 ws), .int .i64 (rmZ 1 ws), .int .i64 (rmZ 2 ws)]] u fun e w' => e = .returned (.int .i64 (rmN ws)) ∧ Below u.heap.size u w') := fun u => c_countBlocks _ _ _ u (by omega) g2' (by omega) g4 (by omega) g6
          have gN : 1 ≤ rmN ws ∧ rmN ws ≤ 120 := by
            have h1 : 1 * 1 ≤ rmZ 0 ws * rmZ 1 ws := Int.mul_le_mul g1 g3 (by omega) (by omega)
            have h2 : 1 * 1 ≤ rmZ 0 ws * rmZ 1 ws * rmZ 2 ws := Int.mul_le_mul (by omega) g5 (by omega) (by omega)
            exact ⟨by unfold rmN; omega, g7⟩
          have o0 := HO4.out.c0
          have o1 := HO4.out.c1
          have o2 := HO4.out.c2
          clear g1 g2' g3 g4 g5 g6 g7
          go_wp2_with fail
          refine (CC.out _).mono ?_
          rintro e w5 ⟨rfl, hb⟩
          have HR5 := Lib.hid (HR4.out.below hb)
          have HB5 := Lib.hid (HB4.out.trans (hb.mono HB4.out.size))
          have HO5 := Lib.hid (HO4.out.below hb)
          clear hb o0 o1 o2 HR4 HB4 HO4
          have iw1 : IntKind.i64.wrap (3 * rmN ws) = 3 * rmN ws := IntWalk.i64_in _ (by omega)
          have iw2 : IntKind.i64.wrap (2 + 3 * rmN ws) = 2 + 3 * rmN ws := IntWalk.i64_in _ (by omega)
          by_cases hc : (ws.length : Int) = 2 + 3 * rmN ws
          · have HS5 := Lib.hid (HS.out.below HB5.out)
            obtain ⟨bw', ow', ebw, hsd⟩ := HS5.out.two (by omega)
            simp at ebw
            obtain ⟨rfl, rfl⟩ := ebw
            have CN2 : Hid (Calls Tryd.prog 26 #[.slice (some ⟨bw, ow + 2, none⟩) (ws.length - 2) (ws.length - 2)] w5 (GivesN w5 (nuA (ws.drop 2)) (nuB (ws.drop 2)))) := c_readNumbers _ _ w5 (by rw [List.length_drop]; omega) (fun p hp' => by have := hp p (List.mem_of_mem_drop hp'); omega) hsd (HLB.out.below HB5.out)
            have hcap : (2 : Int) ≤ (ws.length : Int) := by omega
            have hcap2 : ¬ ws.length = 2 := by omega
            have hcap3 : ¬ (ws.length : Int) = 2 := by omega
            have hcap4 : ¬ ws.length - 2 = 0 := by omega
            clear hsd
            go_wp2_with fail
            refine CN2.out.mono ?_
            rintro e w6 ⟨q6, rfl, hr6, hb⟩
            have HR6 := Lib.hid (HR5.out.below hb)
            have HB6 := Lib.hid (HB5.out.trans (hb.mono HB5.out.size))
            have HO6 := Lib.hid (HO5.out.below hb)
            have hL5 := HO5.out.lt
            have hs6 := hb.size
            have HQ6 := Lib.hid hr6
            obtain ⟨A6, c6, rfl⟩ := hr6.shape
            clear hr6 hb CN2 HR5 HB5 HO5
            cases hn2 : nuB (ws.drop 2)
            · have hf := HN4.out hn2
              obtain ⟨n1, n2, n3, n4, n5, n6⟩ := NO.out hf
              clear HQ6
              have HF := Lib.hid (fin_none (r := w.heap.size) (Nat.le_refl _) HR6.out HB6.out)
              have y0 := HR6.out.c0
              have y1 := HR6.out.c1
              have y2 := HR6.out.c2
              have y3 := HR6.out.c3
              have y4 := HR6.out.c4
              have y5 := HR6.out.c5
              have y6 := HR6.out.fz
              have y7 := HR6.out.lt
              go_wp2
              unfold putM at HF
              generalize ((((((w6.setCell ⟨w.heap.size, 0, none⟩ (.int .i64 0)).setCell ⟨w.heap.size, 1, none⟩ (.int .i64 0)).setCell ⟨w.heap.size, 2, none⟩ (.int .i64 0)).setCell ⟨w.heap.size, 3, none⟩ (.slice none 0 0)).setCell ⟨w.heap.size, 4, none⟩ (.slice none 0 0)).setCell ⟨w.heap.size, 5, none⟩ (.slice none 0 0)) = we at *
              obtain ⟨P1, P2, P3⟩ := HF.out
              have f0 := P1.c0
              have f1 := P1.c1
              have f2 := P1.c2
              have f3 := P1.c3
              have f4 := P1.c4
              have f5 := P1.c5
              refine bodyPost_ret (v := .tuple #[.agg #[.int .i64 0, .int .i64 0, .int .i64 0, .slice none 0 0, .slice none 0 0, .slice none 0 0], .bool false]) (by simp [results, Tryd.results13, go_sem, f0, f1, f2, f3, f4, f5]) rfl (by rw [n1, n2, n3, n4, n5, n6, hf]; exact ⟨_, _, _, rfl, P2, P3⟩)
            · have hyes := HN5.out hn HLN.out hg hc hn2
              obtain ⟨K, hK⟩ : ∃ K : Nat, (rmN ws).toNat = K := ⟨_, rfl⟩
              have hKi : (K : Int) = rmN ws := by omega
              have hnl : (nuA (ws.drop 2)).length = 3 * K := by unfold nuA; rw [hn2, if_pos rfl, List.length_map, List.length_drop]; omega
              have hX : rmX 0 ws = rmZ 0 ws ∧ rmX 1 ws = rmZ 1 ws ∧ rmX 2 ws = rmZ 2 ws := by unfold rmX; rw [hyes]; exact ⟨rfl, rfl, rfl⟩
              have hL : ∀ j, rmL j ws = thr j (nuA (ws.drop 2)) K := fun j => by unfold rmL; rw [hyes, if_pos rfl, hK]
              have HXX := Lib.hid hX
              have HLL := Lib.hid hL
              have HYES := Lib.hid hyes
              have hK1 : 1 ≤ K ∧ K ≤ 120 := by omega
              clear hX hL hyes hn hg hc hn2 hcap hcap2 hcap3 hcap4 iw1 iw2
              generalize nuA (ws.drop 2) = ns at *
              obtain ⟨nb, cn, e6, hnb1, hnb2⟩ := HQ6.out.form (by omega)
              rw [hnl] at e6
              simp at e6
              obtain ⟨rfl, rfl⟩ := e6
              have HM6 : Hid (NumAt w6 nb 0 ns) := ⟨hnb2, fun k hk => by rw [Nat.zero_add]; exact HQ6.out.cell k hk⟩
              have C6 : Hid (CSt w w6 w.heap.size L w6.heap.size (rmZ 0 ws) (rmZ 1 ws) (rmZ 2 ws) (.slice none 0 0) (.slice none 0 0) (.slice none 0 0) (thr 0 ns 0) (thr 1 ns 0) (thr 2 ns 0)) := ⟨HO6.out, ⟨Row.nil _ _, Row.nil _ _, Row.nil _ _, .inl rfl, .inl rfl, .inl rfl⟩, HR6.out, HB6.out, by omega, Nat.le_refl _, hL2, Nat.le_refl _⟩
              rw [hnl]
              have hLnb : L ≠ nb := by omega
              have HNL := Lib.hid hnl
              have hnl3 : ns.length = 3 * K := hnl
              clear HQ6 HO6 HR6 HB6 HNL hKi hK hnl
              go_wp2_with fail
              generalize hB : w6.heap.size = B at *
              go_loopw [8] (fun i wr => ∃ k : Nat, k ≤ K ∧ i = .int .i64 ((3 * k : Nat) : Int) ∧ (∃ v1 v2 v3, CSt w wr w.heap.size L B (rmZ 0 ws) (rmZ 1 ws) (rmZ 2 ws) v1 v2 v3 (thr 0 ns k) (thr 1 ns k) (thr 2 ns k)) ∧ NumAt wr nb 0 ns) (fun i _ => 3 * K - (RowKit.intOf i).toNat)
              case atStart => exact ⟨0, Nat.zero_le _, rfl, ⟨_, _, _, C6.out⟩, HM6.out⟩
              case round =>
                obtain ⟨k, hk, rfl, ⟨v1, v2, v3, hc⟩, hm⟩ := hrel
                obtain ⟨VA1, vc1, hv1⟩ := hc.mod.t.shape
                obtain ⟨VA2, vc2, hv2⟩ := hc.mod.g.shape
                obtain ⟨VA3, vc3, hv3⟩ := hc.mod.r.shape
                rw [thr_len] at hv1 hv2 hv3
                subst hv1
                subst hv2
                subst hv3
                have HC := Lib.hid hc
                have HM := Lib.hid hm
                clear hc hm C6 HM6
                by_cases hlt : k < K
                · obtain ⟨q, hq⟩ : ∃ q, 3 * k = q := ⟨_, rfl⟩
                  rw [hq]
                  have b0 : (q : Int) < ((3 * K : Nat) : Int) := by omega
                  have b1 : (0 : Int) ≤ (q : Int) := by omega
                  have iw1 : IntKind.i64.wrap ((q : Int) + 1) = (q : Int) + 1 := IntWalk.i64_in _ (by omega)
                  have iw2 : IntKind.i64.wrap ((q : Int) + 2) = (q : Int) + 2 := IntWalk.i64_in _ (by omega)
                  have iw3 : IntKind.i64.wrap ((q : Int) + 3) = (q : Int) + 3 := IntWalk.i64_in _ (by omega)
                  have t1 : ((q : Int) + 1).toNat = q + 1 := by omega
                  have t2 : ((q : Int) + 2).toNat = q + 2 := by omega
                  have c1' : (q : Int) + 1 < ((3 * K : Nat) : Int) := by omega
                  have c2' : (q : Int) + 2 < ((3 * K : Nat) : Int) := by omega
                  have e0' : (q : Int) < 3 * (K : Int) := by omega
                  have e1' : (q : Int) + 1 < 3 * (K : Int) := by omega
                  have e2' : (q : Int) + 2 < 3 * (K : Int) := by omega
                  have d1 : (0 : Int) ≤ (q : Int) + 1 := by omega
                  have d2 : (0 : Int) ≤ (q : Int) + 2 := by omega
                  obtain ⟨x0, hx0⟩ : ∃ x, ns.getD (q + 0) 0 = x := ⟨_, rfl⟩
                  obtain ⟨x1, hx1⟩ : ∃ x, ns.getD (q + 1) 0 = x := ⟨_, rfl⟩
                  obtain ⟨x2, hx2⟩ : ∃ x, ns.getD (q + 2) 0 = x := ⟨_, rfl⟩
                  have HX0 := Lib.hid hx0
                  have HX1 := Lib.hid hx1
                  have HX2 := Lib.hid hx2
                  have HT0 : Hid (thr 0 ns k ++ [x0] = thr 0 ns (k + 1)) := by rw [← hx0, ← hq]; exact (thr_next 0 ns k).symm
                  have HT1 : Hid (thr 1 ns k ++ [x1] = thr 1 ns (k + 1)) := by rw [← hx1, ← hq]; exact (thr_next 1 ns k).symm
                  have HT2 : Hid (thr 2 ns k ++ [x2] = thr 2 ns (k + 1)) := by rw [← hx2, ← hq]; exact (thr_next 2 ns k).symm
                  have HQQ := Lib.hid hq
                  have hq3 : q + 3 = 3 * (k + 1) := by omega
                  have hqn : q + 2 < ns.length := by omega
                  have l0 := thr_len 0 ns k
                  have l1 := thr_len 1 ns k
                  have l2 := thr_len 2 ns k
                  clear hx0 hx1 hx2 hq
                  have KDa : Hid (Below wr.heap.size wr wr.drew) := (Below.refl _ _).drew
                  have KAa : Hid (∀ u, Below wr.heap.size wr u → (fun u => u.cell? ⟨L, 3, none⟩ = some (.slice VA1 k vc1) ∧ u.cell? ⟨nb, q, none⟩ = some (.int .i64 x0)) u) := fun u hu => ⟨(HC.out.below hu).out.c3, by have := (HM.out.below hu).c (q + 0) (by omega); rw [Nat.zero_add, HX0.out] at this; exact this⟩
                  go_wp2_with fail
                  obtain ⟨Sa, hSa⟩ : ∃ S : World → Prop, S = (fun u => u.cell? ⟨L, 3, none⟩ = some (.slice VA1 k vc1) ∧ u.cell? ⟨nb, q, none⟩ = some (.int .i64 x0)) := ⟨_, rfl⟩
                  refine region_till Sa 9 (by kernel_rfl) (by rw [hSa]; exact KAa.out _ KDa.out) (fun hHeld => ?_)
                  refine till_take (i := 0) (v := ?va_0) rfl (by kernel_rfl) (by kernel_rfl) (by kernel_rfl) (by kernel_rfl) (fun _ _ _ h => h) (Or.inl ⟨by rfl, ?hya_0⟩) (by assumption) ?resta_0
                  case hya_0 =>
                    intro u hSw
                    rw [hSa] at hSw; obtain ⟨x0, x1⟩ := hSw
                    go_simp
                    try with_reducible rfl
                  case resta_0 =>
                    refine till_take (i := 1) (v := ?va_1) rfl (by kernel_rfl) (by kernel_rfl) (by kernel_rfl) (by kernel_rfl) (fun _ _ _ h => h) (Or.inl ⟨by rfl, ?hya_1⟩) (by assumption) ?resta_1
                    case hya_1 =>
                      intro u hSw
                      rw [hSa] at hSw; obtain ⟨x0, x1⟩ := hSw
                      go_simp
                      try with_reducible rfl
                    case resta_1 =>
                      refine till_take (i := 2) (v := ?va_2) rfl (by kernel_rfl) (by kernel_rfl) (by kernel_rfl) (by kernel_rfl) (fun _ _ _ h => h) (Or.inl ⟨by rfl, ?hya_2⟩) (by assumption) ?resta_2
                      case hya_2 =>
                        intro u hSw
                        rw [hSa] at hSw; obtain ⟨x0, x1⟩ := hSw
                        go_simp
                        try with_reducible rfl
                      case resta_2 =>
                        refine till_take (i := 3) (v := ?va_3) rfl (by kernel_rfl) (by kernel_rfl) (by kernel_rfl) (by kernel_rfl) (fun _ _ _ h => h) (Or.inl ⟨by rfl, ?hya_3⟩) (by assumption) ?resta_3
                        case hya_3 =>
                          intro u hSw
                          rw [hSa] at hSw; obtain ⟨x0, x1⟩ := hSw
                          go_simp
                          try with_reducible rfl
                        case resta_3 =>
                          refine till_take (i := 4) (v := ?va_4) rfl (by kernel_rfl) (by kernel_rfl) (by kernel_rfl) (by kernel_rfl) (fun _ _ _ h => h) (Or.inl ⟨by rfl, ?hya_4⟩) (by assumption) ?resta_4
                          case hya_4 =>
                            intro u hSw
                            rw [hSa] at hSw; obtain ⟨x0, x1⟩ := hSw
                            go_simp
                            try with_reducible rfl
                          case resta_4 =>
                            refine till_take (i := 5) (v := ?va_5) rfl (by kernel_rfl) (by kernel_rfl) (by kernel_rfl) (by kernel_rfl) (fun _ _ _ h => h) (Or.inl ⟨by rfl, ?hya_5⟩) (by assumption) ?resta_5
                            case hya_5 =>
                              intro u hSw
                              rw [hSa] at hSw; obtain ⟨x0, x1⟩ := hSw
                              go_simp
                              try with_reducible rfl
                            case resta_5 =>
                              simp only [List.getElem_toArray, List.getElem_cons_zero, List.getElem_cons_succ, Act.put, List.setIfInBounds_toArray, List.set_cons_zero, List.set_cons_succ]
                              refine till_one (i := 6) rfl (by kernel_rfl) (fun K hK => ?_)
                              go_simp
                              refine hK.out _ _ (fun hz => by rw [hSa]; exact KAa.out _ (KDa.out.alloc KDa.out.size _)) (fun hH => ?_)
                              have hHeld := hH (by omega)
                              clear hK K hH
                              refine till_one (i := 7) rfl (by kernel_rfl) (fun K hK => ?_)
                              refine step_append_src rfl _ _ 24 (by rfl) (base := B) Tryd.underlying24 HI.out hz0 hz1 hz2 rfl (by decide) (by rfl) (World.ownsRow.alloc (HC.out.below KDa.out).mod.t _) (by rfl) (src_one (x := x0) (one_new _ _ (by first | rfl | simp) _ _)) ints_ones (by unfold maxLen; omega) (by omega) (by have := HC.out.sz; simp; omega) ?_
                              intro vv wa o1 g1 a1
                              have hB1 : Below wr.heap.size wr (wr.drew.alloc (.cells #[.int .i64 x0] 3)) := KDa.out.alloc KDa.out.size _
                              have r1 := row_app (by simp [thr_len]) o1
                              rw [HT0.out] at r1
                              obtain ⟨VB, vd, hv1⟩ := r1.shape
                              rw [thr_len] at hv1
                              subst hv1
                              rw [← HT0.out] at r1
                              obtain ⟨S1, C1⟩ := HC.out.app1 hB1 r1 g1 (by simpa using a1)
                              rw [HT0.out] at C1
                              have HC7 := Lib.hid C1
                              have HM7 := Lib.hid (HM.out.app (L := L) (j := 3) (v := (.slice VB (k + 1) vd)) hB1 g1 (fun e => by have := (World.ownsRow.lt HC.out.mod.t _ e).1; omega) (by omega))
                              have M1 := HM.out.kept hB1 g1 (fun e => by have := (World.ownsRow.lt HC.out.mod.t _ e).1; omega)
                              have K6 : Hid ((fun u => u.cell? ⟨L, 3, none⟩ = some (.slice VA1 k vc1) ∧ u.cell? ⟨nb, q, none⟩ = some (.int .i64 x0)) wa) := ⟨S1.c3, by have := M1.c (q + 0) (by omega); rw [Nat.zero_add, HX0.out] at this; exact this⟩
                              have p7 := S1.c3
                              have p8 := S1.fz
                              have p9 := S1.lt
                              clear o1 r1 g1 a1 hB1 C1 M1 S1
                              refine hK.out _ _ (fun hz => by rw [hSa]; exact K6.out) (fun hH => ?_)
                              have hHeld := hH (by omega)
                              clear hK K hH
                              refine till_take (i := 8) (v := ?va_8) rfl (by kernel_rfl) (by kernel_rfl) (by kernel_rfl) (by kernel_rfl) (fun _ _ _ h => h) (Or.inl ⟨by rfl, ?hya_8⟩) (by assumption) ?resta_8
                              case hya_8 =>
                                intro u hSw
                                rw [hSa] at hSw; obtain ⟨x0, x1⟩ := hSw
                                go_simp
                                try with_reducible rfl
                              case resta_8 =>
                                simp only [List.getElem_toArray, List.getElem_cons_zero, List.getElem_cons_succ, Act.put, List.setIfInBounds_toArray, List.set_cons_zero, List.set_cons_succ]
                                refine till_one (i := 9) rfl (by kernel_rfl) (fun K hK => ?_)
                                go_simp
                                refine hK.out _ _ (fun hz => absurd rfl hz) (fun hH => ?_)
                                clear hK K hH
                                refine till_done (by kernel_rfl) ?_ _
                                clear p7 p8 p9 K6 hHeld hSa KAa KDa
                                generalize wa.setCell ⟨L, 3, none⟩ (.slice VB (k + 1) vd) = w7 at *
                                obtain ⟨VD1, vd1, hVD1⟩ : ∃ A c, VB = A ∧ vd = c := ⟨VB, vd, rfl, rfl⟩
                                obtain ⟨rfl, rfl⟩ := hVD1
                                have KDb : Hid (Below w7.heap.size w7 w7.drew) := (Below.refl _ _).drew
                                have KAb : Hid (∀ u, Below w7.heap.size w7 u → (fun u => u.cell? ⟨L, 4, none⟩ = some (.slice VA2 k vc2) ∧ u.cell? ⟨nb, q + 1, none⟩ = some (.int .i64 x1)) u) := fun u hu => ⟨(HC7.out.below hu).out.c4, by have := (HM7.out.below hu).c (q + 1) (by omega); rw [Nat.zero_add, HX1.out] at this; exact this⟩
                                go_wp2_with fail
                                obtain ⟨Sb, hSb⟩ : ∃ S : World → Prop, S = (fun u => u.cell? ⟨L, 4, none⟩ = some (.slice VA2 k vc2) ∧ u.cell? ⟨nb, q + 1, none⟩ = some (.int .i64 x1)) := ⟨_, rfl⟩
                                refine region_till Sb 10 (by kernel_rfl) (by rw [hSb]; exact KAb.out _ KDb.out) (fun hHeld => ?_)
                                refine till_take (i := 0) (v := ?vb_0) rfl (by kernel_rfl) (by kernel_rfl) (by kernel_rfl) (by kernel_rfl) (fun _ _ _ h => h) (Or.inl ⟨by rfl, ?hyb_0⟩) (by assumption) ?restb_0
                                case hyb_0 =>
                                  intro u hSw
                                  rw [hSb] at hSw; obtain ⟨x0, x1⟩ := hSw
                                  go_simp
                                  try with_reducible rfl
                                case restb_0 =>
                                  refine till_take (i := 1) (v := ?vb_1) rfl (by kernel_rfl) (by kernel_rfl) (by kernel_rfl) (by kernel_rfl) (fun _ _ _ h => h) (Or.inl ⟨by rfl, ?hyb_1⟩) (by assumption) ?restb_1
                                  case hyb_1 =>
                                    intro u hSw
                                    rw [hSb] at hSw; obtain ⟨x0, x1⟩ := hSw
                                    go_simp
                                    try with_reducible rfl
                                  case restb_1 =>
                                    refine till_take (i := 2) (v := ?vb_2) rfl (by kernel_rfl) (by kernel_rfl) (by kernel_rfl) (by kernel_rfl) (fun _ _ _ h => h) (Or.inl ⟨by rfl, ?hyb_2⟩) (by assumption) ?restb_2
                                    case hyb_2 =>
                                      intro u hSw
                                      rw [hSb] at hSw; obtain ⟨x0, x1⟩ := hSw
                                      go_simp
                                      try with_reducible rfl
                                    case restb_2 =>
                                      refine till_take (i := 3) (v := ?vb_3) rfl (by kernel_rfl) (by kernel_rfl) (by kernel_rfl) (by kernel_rfl) (fun _ _ _ h => h) (Or.inl ⟨by rfl, ?hyb_3⟩) (by assumption) ?restb_3
                                      case hyb_3 =>
                                        intro u hSw
                                        rw [hSb] at hSw; obtain ⟨x0, x1⟩ := hSw
                                        go_simp
                                        try with_reducible rfl
                                      case restb_3 =>
                                        refine till_take (i := 4) (v := ?vb_4) rfl (by kernel_rfl) (by kernel_rfl) (by kernel_rfl) (by kernel_rfl) (fun _ _ _ h => h) (Or.inl ⟨by rfl, ?hyb_4⟩) (by assumption) ?restb_4
                                        case hyb_4 =>
                                          intro u hSw
                                          rw [hSb] at hSw; obtain ⟨x0, x1⟩ := hSw
                                          go_simp
                                          try with_reducible rfl
                                        case restb_4 =>
                                          refine till_take (i := 5) (v := ?vb_5) rfl (by kernel_rfl) (by kernel_rfl) (by kernel_rfl) (by kernel_rfl) (fun _ _ _ h => h) (Or.inl ⟨by rfl, ?hyb_5⟩) (by assumption) ?restb_5
                                          case hyb_5 =>
                                            intro u hSw
                                            rw [hSb] at hSw; obtain ⟨x0, x1⟩ := hSw
                                            go_simp
                                            try with_reducible rfl
                                          case restb_5 =>
                                            refine till_take (i := 6) (v := ?vb_6) rfl (by kernel_rfl) (by kernel_rfl) (by kernel_rfl) (by kernel_rfl) (fun _ _ _ h => h) (Or.inl ⟨by rfl, ?hyb_6⟩) (by assumption) ?restb_6
                                            case hyb_6 =>
                                              intro u hSw
                                              rw [hSb] at hSw; obtain ⟨x0, x1⟩ := hSw
                                              go_simp
                                              try with_reducible rfl
                                            case restb_6 =>
                                              simp only [List.getElem_toArray, List.getElem_cons_zero, List.getElem_cons_succ, Act.put, List.setIfInBounds_toArray, List.set_cons_zero, List.set_cons_succ]
                                              refine till_one (i := 7) rfl (by kernel_rfl) (fun K hK => ?_)
                                              go_simp
                                              refine hK.out _ _ (fun hz => by rw [hSb]; exact KAb.out _ (KDb.out.alloc KDb.out.size _)) (fun hH => ?_)
                                              have hHeld := hH (by omega)
                                              clear hK K hH
                                              refine till_one (i := 8) rfl (by kernel_rfl) (fun K hK => ?_)
                                              refine step_append_src rfl _ _ 24 (by rfl) (base := B) Tryd.underlying24 HI.out hz0 hz1 hz2 rfl (by decide) (by rfl) (World.ownsRow.alloc (HC7.out.below KDb.out).mod.g _) (by rfl) (src_one (x := x1) (one_new _ _ (by first | rfl | simp) _ _)) ints_ones (by unfold maxLen; omega) (by omega) (by have := HC7.out.sz; simp; omega) ?_
                                              intro vv wb o1 g1 a1
                                              have hB1 : Below w7.heap.size w7 (w7.drew.alloc (.cells #[.int .i64 x1] 3)) := KDb.out.alloc KDb.out.size _
                                              have r1 := row_app (by simp [thr_len]) o1
                                              rw [HT1.out] at r1
                                              obtain ⟨VB, vd, hv1⟩ := r1.shape
                                              rw [thr_len] at hv1
                                              subst hv1
                                              rw [← HT1.out] at r1
                                              obtain ⟨S1, C1⟩ := HC7.out.app2 hB1 r1 g1 (by simpa using a1)
                                              rw [HT1.out] at C1
                                              have HC8 := Lib.hid C1
                                              have HM8 := Lib.hid (HM7.out.app (L := L) (j := 4) (v := (.slice VB (k + 1) vd)) hB1 g1 (fun e => by have := (World.ownsRow.lt HC7.out.mod.g _ e).1; omega) (by omega))
                                              have M1 := HM7.out.kept hB1 g1 (fun e => by have := (World.ownsRow.lt HC7.out.mod.g _ e).1; omega)
                                              have K6 : Hid ((fun u => u.cell? ⟨L, 4, none⟩ = some (.slice VA2 k vc2) ∧ u.cell? ⟨nb, q + 1, none⟩ = some (.int .i64 x1)) wb) := ⟨S1.c4, by have := M1.c (q + 1) (by omega); rw [Nat.zero_add, HX1.out] at this; exact this⟩
                                              have p7 := S1.c4
                                              have p8 := S1.fz
                                              have p9 := S1.lt
                                              clear o1 r1 g1 a1 hB1 C1 M1 S1
                                              refine hK.out _ _ (fun hz => by rw [hSb]; exact K6.out) (fun hH => ?_)
                                              have hHeld := hH (by omega)
                                              clear hK K hH
                                              refine till_take (i := 9) (v := ?vb_9) rfl (by kernel_rfl) (by kernel_rfl) (by kernel_rfl) (by kernel_rfl) (fun _ _ _ h => h) (Or.inl ⟨by rfl, ?hyb_9⟩) (by assumption) ?restb_9
                                              case hyb_9 =>
                                                intro u hSw
                                                rw [hSb] at hSw; obtain ⟨x0, x1⟩ := hSw
                                                go_simp
                                                try with_reducible rfl
                                              case restb_9 =>
                                                simp only [List.getElem_toArray, List.getElem_cons_zero, List.getElem_cons_succ, Act.put, List.setIfInBounds_toArray, List.set_cons_zero, List.set_cons_succ]
                                                refine till_one (i := 10) rfl (by kernel_rfl) (fun K hK => ?_)
                                                go_simp
                                                refine hK.out _ _ (fun hz => absurd rfl hz) (fun hH => ?_)
                                                clear hK K hH
                                                refine till_done (by kernel_rfl) ?_ _
                                                clear p7 p8 p9 K6 hHeld hSb KAb KDb
                                                generalize wb.setCell ⟨L, 4, none⟩ (.slice VB (k + 1) vd) = w8 at *
                                                obtain ⟨VD2, vd2, hVD2⟩ : ∃ A c, VB = A ∧ vd = c := ⟨VB, vd, rfl, rfl⟩
                                                obtain ⟨rfl, rfl⟩ := hVD2
                                                have KDc : Hid (Below w8.heap.size w8 w8.drew) := (Below.refl _ _).drew
                                                have KAc : Hid (∀ u, Below w8.heap.size w8 u → (fun u => u.cell? ⟨L, 5, none⟩ = some (.slice VA3 k vc3) ∧ u.cell? ⟨nb, q + 2, none⟩ = some (.int .i64 x2)) u) := fun u hu => ⟨(HC8.out.below hu).out.c5, by have := (HM8.out.below hu).c (q + 2) (by omega); rw [Nat.zero_add, HX2.out] at this; exact this⟩
                                                go_wp2_with fail
                                                obtain ⟨Sc, hSc⟩ : ∃ S : World → Prop, S = (fun u => u.cell? ⟨L, 5, none⟩ = some (.slice VA3 k vc3) ∧ u.cell? ⟨nb, q + 2, none⟩ = some (.int .i64 x2)) := ⟨_, rfl⟩
                                                refine region_till Sc 10 (by kernel_rfl) (by rw [hSc]; exact KAc.out _ KDc.out) (fun hHeld => ?_)
                                                refine till_take (i := 0) (v := ?vc_0) rfl (by kernel_rfl) (by kernel_rfl) (by kernel_rfl) (by kernel_rfl) (fun _ _ _ h => h) (Or.inl ⟨by rfl, ?hyc_0⟩) (by assumption) ?restc_0
                                                case hyc_0 =>
                                                  intro u hSw
                                                  rw [hSc] at hSw; obtain ⟨x0, x1⟩ := hSw
                                                  go_simp
                                                  try with_reducible rfl
                                                case restc_0 =>
                                                  refine till_take (i := 1) (v := ?vc_1) rfl (by kernel_rfl) (by kernel_rfl) (by kernel_rfl) (by kernel_rfl) (fun _ _ _ h => h) (Or.inl ⟨by rfl, ?hyc_1⟩) (by assumption) ?restc_1
                                                  case hyc_1 =>
                                                    intro u hSw
                                                    rw [hSc] at hSw; obtain ⟨x0, x1⟩ := hSw
                                                    go_simp
                                                    try with_reducible rfl
                                                  case restc_1 =>
                                                    refine till_take (i := 2) (v := ?vc_2) rfl (by kernel_rfl) (by kernel_rfl) (by kernel_rfl) (by kernel_rfl) (fun _ _ _ h => h) (Or.inl ⟨by rfl, ?hyc_2⟩) (by assumption) ?restc_2
                                                    case hyc_2 =>
                                                      intro u hSw
                                                      rw [hSc] at hSw; obtain ⟨x0, x1⟩ := hSw
                                                      go_simp
                                                      try with_reducible rfl
                                                    case restc_2 =>
                                                      refine till_take (i := 3) (v := ?vc_3) rfl (by kernel_rfl) (by kernel_rfl) (by kernel_rfl) (by kernel_rfl) (fun _ _ _ h => h) (Or.inl ⟨by rfl, ?hyc_3⟩) (by assumption) ?restc_3
                                                      case hyc_3 =>
                                                        intro u hSw
                                                        rw [hSc] at hSw; obtain ⟨x0, x1⟩ := hSw
                                                        go_simp
                                                        try with_reducible rfl
                                                      case restc_3 =>
                                                        refine till_take (i := 4) (v := ?vc_4) rfl (by kernel_rfl) (by kernel_rfl) (by kernel_rfl) (by kernel_rfl) (fun _ _ _ h => h) (Or.inl ⟨by rfl, ?hyc_4⟩) (by assumption) ?restc_4
                                                        case hyc_4 =>
                                                          intro u hSw
                                                          rw [hSc] at hSw; obtain ⟨x0, x1⟩ := hSw
                                                          go_simp
                                                          try with_reducible rfl
                                                        case restc_4 =>
                                                          refine till_take (i := 5) (v := ?vc_5) rfl (by kernel_rfl) (by kernel_rfl) (by kernel_rfl) (by kernel_rfl) (fun _ _ _ h => h) (Or.inl ⟨by rfl, ?hyc_5⟩) (by assumption) ?restc_5
                                                          case hyc_5 =>
                                                            intro u hSw
                                                            rw [hSc] at hSw; obtain ⟨x0, x1⟩ := hSw
                                                            go_simp
                                                            try with_reducible rfl
                                                          case restc_5 =>
                                                            refine till_take (i := 6) (v := ?vc_6) rfl (by kernel_rfl) (by kernel_rfl) (by kernel_rfl) (by kernel_rfl) (fun _ _ _ h => h) (Or.inl ⟨by rfl, ?hyc_6⟩) (by assumption) ?restc_6
                                                            case hyc_6 =>
                                                              intro u hSw
                                                              rw [hSc] at hSw; obtain ⟨x0, x1⟩ := hSw
                                                              go_simp
                                                              try with_reducible rfl
                                                            case restc_6 =>
                                                              simp only [List.getElem_toArray, List.getElem_cons_zero, List.getElem_cons_succ, Act.put, List.setIfInBounds_toArray, List.set_cons_zero, List.set_cons_succ]
                                                              refine till_one (i := 7) rfl (by kernel_rfl) (fun K hK => ?_)
                                                              go_simp
                                                              refine hK.out _ _ (fun hz => by rw [hSc]; exact KAc.out _ (KDc.out.alloc KDc.out.size _)) (fun hH => ?_)
                                                              have hHeld := hH (by omega)
                                                              clear hK K hH
                                                              refine till_one (i := 8) rfl (by kernel_rfl) (fun K hK => ?_)
                                                              refine step_append_src rfl _ _ 24 (by rfl) (base := B) Tryd.underlying24 HI.out hz0 hz1 hz2 rfl (by decide) (by rfl) (World.ownsRow.alloc (HC8.out.below KDc.out).mod.r _) (by rfl) (src_one (x := x2) (one_new _ _ (by first | rfl | simp) _ _)) ints_ones (by unfold maxLen; omega) (by omega) (by have := HC8.out.sz; simp; omega) ?_
                                                              intro vv wc o1 g1 a1
                                                              have hB1 : Below w8.heap.size w8 (w8.drew.alloc (.cells #[.int .i64 x2] 3)) := KDc.out.alloc KDc.out.size _
                                                              have r1 := row_app (by simp [thr_len]) o1
                                                              rw [HT2.out] at r1
                                                              obtain ⟨VB, vd, hv1⟩ := r1.shape
                                                              rw [thr_len] at hv1
                                                              subst hv1
                                                              rw [← HT2.out] at r1
                                                              obtain ⟨S1, C1⟩ := HC8.out.app3 hB1 r1 g1 (by simpa using a1)
                                                              rw [HT2.out] at C1
                                                              have HC9 := Lib.hid C1
                                                              have HM9 := Lib.hid (HM8.out.app (L := L) (j := 5) (v := (.slice VB (k + 1) vd)) hB1 g1 (fun e => by have := (World.ownsRow.lt HC8.out.mod.r _ e).1; omega) (by omega))
                                                              have M1 := HM8.out.kept hB1 g1 (fun e => by have := (World.ownsRow.lt HC8.out.mod.r _ e).1; omega)
                                                              have K6 : Hid ((fun u => u.cell? ⟨L, 5, none⟩ = some (.slice VA3 k vc3) ∧ u.cell? ⟨nb, q + 2, none⟩ = some (.int .i64 x2)) wc) := ⟨S1.c5, by have := M1.c (q + 2) (by omega); rw [Nat.zero_add, HX2.out] at this; exact this⟩
                                                              have p7 := S1.c5
                                                              have p8 := S1.fz
                                                              have p9 := S1.lt
                                                              clear o1 r1 g1 a1 hB1 C1 M1 S1
                                                              refine hK.out _ _ (fun hz => by rw [hSc]; exact K6.out) (fun hH => ?_)
                                                              have hHeld := hH (by omega)
                                                              clear hK K hH
                                                              refine till_take (i := 9) (v := ?vc_9) rfl (by kernel_rfl) (by kernel_rfl) (by kernel_rfl) (by kernel_rfl) (fun _ _ _ h => h) (Or.inl ⟨by rfl, ?hyc_9⟩) (by assumption) ?restc_9
                                                              case hyc_9 =>
                                                                intro u hSw
                                                                rw [hSc] at hSw; obtain ⟨x0, x1⟩ := hSw
                                                                go_simp
                                                                try with_reducible rfl
                                                              case restc_9 =>
                                                                simp only [List.getElem_toArray, List.getElem_cons_zero, List.getElem_cons_succ, Act.put, List.setIfInBounds_toArray, List.set_cons_zero, List.set_cons_succ]
                                                                refine till_one (i := 10) rfl (by kernel_rfl) (fun K hK => ?_)
                                                                go_simp
                                                                refine hK.out _ _ (fun hz => absurd rfl hz) (fun hH => ?_)
                                                                clear hK K hH
                                                                refine till_done (by kernel_rfl) ?_ _
                                                                clear p7 p8 p9 K6 hHeld hSc KAc KDc
                                                                generalize wc.setCell ⟨L, 5, none⟩ (.slice VB (k + 1) vd) = w9 at *
                                                                obtain ⟨VD3, vd3, hVD3⟩ : ∃ A c, VB = A ∧ vd = c := ⟨VB, vd, rfl, rfl⟩
                                                                obtain ⟨rfl, rfl⟩ := hVD3
                                                                go_wp2
                                                                go_roundw
                                                                case rel => exact ⟨k + 1, by omega, by rw [← hq3]; go_num, ⟨_, _, _, HC9.out⟩, HM9.out⟩
                                                                case measure => simp [RowKit.intOf]; omega
                · obtain rfl : k = K := by omega
                  have nlt : ¬ ((3 * k : Nat) : Int) < ((3 * k : Nat) : Int) := by omega
                  have HF := Lib.hid HC.out.fin
                  have o0 := HC.out.out.c0
                  have o1 := HC.out.out.c1
                  have o2 := HC.out.out.c2
                  have o3 := HC.out.out.c3
                  have o4 := HC.out.out.c4
                  have o5 := HC.out.out.c5
                  have o6 := HC.out.out.lt
                  have y0 := HC.out.res.c0
                  have y1 := HC.out.res.c1
                  have y2 := HC.out.res.c2
                  have y3 := HC.out.res.c3
                  have y4 := HC.out.res.c4
                  have y5 := HC.out.res.c5
                  have y6 := HC.out.res.fz
                  have y7 := HC.out.res.lt
                  go_wp2
                  unfold putM at HF
                  generalize ((((((wr.setCell ⟨w.heap.size, 0, none⟩ (.int .i64 (rmZ 0 ws))).setCell ⟨w.heap.size, 1, none⟩ (.int .i64 (rmZ 1 ws))).setCell ⟨w.heap.size, 2, none⟩ (.int .i64 (rmZ 2 ws))).setCell ⟨w.heap.size, 3, none⟩ (.slice VA1 k vc1)).setCell ⟨w.heap.size, 4, none⟩ (.slice VA2 k vc2)).setCell ⟨w.heap.size, 5, none⟩ (.slice VA3 k vc3)) = we at *
                  obtain ⟨P1, P2, P3⟩ := HF.out
                  have f0 := P1.c0
                  have f1 := P1.c1
                  have f2 := P1.c2
                  have f3 := P1.c3
                  have f4 := P1.c4
                  have f5 := P1.c5
                  refine bodyPost_ret (v := .tuple #[.agg #[.int .i64 (rmZ 0 ws), .int .i64 (rmZ 1 ws), .int .i64 (rmZ 2 ws), .slice VA1 k vc1, .slice VA2 k vc2, .slice VA3 k vc3], .bool true]) (by simp [results, Tryd.results13, go_sem, f0, f1, f2, f3, f4, f5]) rfl (by rw [HXX.out.1, HXX.out.2.1, HXX.out.2.2, HLL.out 0, HLL.out 1, HLL.out 2, HYES.out]; exact ⟨_, _, _, rfl, P2, P3⟩)
          · have hf := HN3.out hc
            obtain ⟨n1, n2, n3, n4, n5, n6⟩ := NO.out hf
            have HF := Lib.hid (fin_none (r := w.heap.size) (Nat.le_refl _) HR5.out HB5.out)
            have y0 := HR5.out.c0
            have y1 := HR5.out.c1
            have y2 := HR5.out.c2
            have y3 := HR5.out.c3
            have y4 := HR5.out.c4
            have y5 := HR5.out.c5
            have y6 := HR5.out.fz
            have y7 := HR5.out.lt
            go_wp2
            unfold putM at HF
            generalize ((((((w5.setCell ⟨w.heap.size, 0, none⟩ (.int .i64 0)).setCell ⟨w.heap.size, 1, none⟩ (.int .i64 0)).setCell ⟨w.heap.size, 2, none⟩ (.int .i64 0)).setCell ⟨w.heap.size, 3, none⟩ (.slice none 0 0)).setCell ⟨w.heap.size, 4, none⟩ (.slice none 0 0)).setCell ⟨w.heap.size, 5, none⟩ (.slice none 0 0)) = we at *
            obtain ⟨P1, P2, P3⟩ := HF.out
            have f0 := P1.c0
            have f1 := P1.c1
            have f2 := P1.c2
            have f3 := P1.c3
            have f4 := P1.c4
            have f5 := P1.c5
            refine bodyPost_ret (v := .tuple #[.agg #[.int .i64 0, .int .i64 0, .int .i64 0, .slice none 0 0, .slice none 0 0, .slice none 0 0], .bool false]) (by simp [results, Tryd.results13, go_sem, f0, f1, f2, f3, f4, f5]) rfl (by rw [n1, n2, n3, n4, n5, n6, hf]; exact ⟨_, _, _, rfl, P2, P3⟩)
      · have hf := HN1.out h3
        have h3' : ¬ ((rmS ws).length : Int) = 3 := by omega
        obtain ⟨n1, n2, n3, n4, n5, n6⟩ := NO.out hf
        clear HQ2
        have HF := Lib.hid (fin_none (r := w.heap.size) (Nat.le_refl _) HR2.out HB2.out)
        have y0 := HR2.out.c0
        have y1 := HR2.out.c1
        have y2 := HR2.out.c2
        have y3 := HR2.out.c3
        have y4 := HR2.out.c4
        have y5 := HR2.out.c5
        have y6 := HR2.out.fz
        have y7 := HR2.out.lt
        go_wp2
        unfold putM at HF
        generalize ((((((w2.setCell ⟨w.heap.size, 0, none⟩ (.int .i64 0)).setCell ⟨w.heap.size, 1, none⟩ (.int .i64 0)).setCell ⟨w.heap.size, 2, none⟩ (.int .i64 0)).setCell ⟨w.heap.size, 3, none⟩ (.slice none 0 0)).setCell ⟨w.heap.size, 4, none⟩ (.slice none 0 0)).setCell ⟨w.heap.size, 5, none⟩ (.slice none 0 0)) = we at *
        obtain ⟨P1, P2, P3⟩ := HF.out
        have f0 := P1.c0
        have f1 := P1.c1
        have f2 := P1.c2
        have f3 := P1.c3
        have f4 := P1.c4
        have f5 := P1.c5
        refine bodyPost_ret (v := .tuple #[.agg #[.int .i64 0, .int .i64 0, .int .i64 0, .slice none 0 0, .slice none 0 0, .slice none 0 0], .bool false]) (by simp [results, Tryd.results13, go_sem, f0, f1, f2, f3, f4, f5]) rfl (by rw [n1, n2, n3, n4, n5, n6, hf]; exact ⟨_, _, _, rfl, P2, P3⟩)
  · have h2' : (ws.length : Int) < 2 := by omega
    have hf : rmB ws = false := by unfold rmB; rw [decide_eq_false h2]; rfl
    obtain ⟨n1, n2, n3, n4, n5, n6⟩ := NO.out hf
    go_enter Tryd.func13, Tryd.ntmps13
    go_wp2
    have f0 := HR0.out.c0
    have f1 := HR0.out.c1
    have f2 := HR0.out.c2
    have f3 := HR0.out.c3
    have f4 := HR0.out.c4
    have f5 := HR0.out.c5
    refine bodyPost_ret (v := .tuple #[.agg #[.int .i64 0, .int .i64 0, .int .i64 0, .slice none 0 0, .slice none 0 0, .slice none 0 0], .bool false]) (by simp [results, Tryd.results13, go_sem, f0, f1, f2, f3, f4, f5]) rfl (by rw [n1, n2, n3, n4, n5, n6, hf]; exact ⟨_, _, _, rfl, ⟨Row.nil _ _, Row.nil _ _, Row.nil _ _, .inl rfl, .inl rfl, .inl rfl⟩, HB0.out⟩)
end Go.Proofs.YtgibkjjjnfjbkaaDoor
