/-
  Contracts: what can come next, blocks below, and arcs reduced, in the program.
-/
import Derived.Test.YtffknfgejoejoaaNB
namespace Go.Proofs.Ytffknfgejoejoaa
open Go.RowKit
set_option linter.unusedVariables false

set_option maxHeartbeats 4000000 in
set_option maxRecDepth 100000 in
theorem c_NextBlocks (xss : List (List Int)) (l : List Int) (v u : Value) (w : World) (hs : ShortL xss) (hl : l.length ≤ 4000000) (h : SeenL w v xss) (hu : Seen w u l) :
    Calls Try.prog 41 #[v, u] w (GivesRow2 w (nxA xss l) (gB xss l)) := by
  have HS := Lib.hid h
  have C0 := Lib.hid (c_isClosed xss l v u w hs hl h hu)
  cases hv : gB xss l
  · have HL : Hid (nxA xss l = []) := by show _ = _; unfold nxA; rw [hv]; rfl
    rw [hv] at C0
    obtain ⟨A, c, rfl, _⟩ := h.shape
    obtain ⟨A2, c2, rfl⟩ := hu.shape
    clear h hu hs hv
    go_enter Try.func41, Try.ntmps41
    go_wp2_with fail
    refine C0.out.mono ?_
    rintro e w1 ⟨rfl, hb⟩
    have HB := Lib.hid hb
    clear hb
    go_wp2
    go_ret2
    exact ⟨_, rfl, by rw [HL.out]; exact Row.nil _ _, HB.out⟩
  · have HL : Hid (nxA xss l = sel (nxP xss l) xss.length) := by show _ = _; unfold nxA; rw [hv]; rfl
    rw [hv] at C0
    obtain ⟨⟨ha, hr⟩, _⟩ := gB_iff.1 hv
    have hN := arc_len ha
    have C1 : Hid (∀ w1, Below w.heap.size w w1 → Calls Try.prog 59 #[u] w1 fun e w' => e = .returned (.map (some w1.heap.size)) ∧ SetM w' w1.heap.size xss.length (inL l) ∧ Below w1.heap.size w1 w') := fun w1 hb => c_marksOf xss.length l u w1 hl (by omega) (hu.below hb) (InN.ris hr)
    obtain ⟨i0, hi0, hz0, hz1, hz2⟩ := info_parts int_info
    have HI := Lib.hid hi0
    clear hi0
    obtain ⟨A, c, rfl, _⟩ := h.shape
    obtain ⟨A2, c2, rfl⟩ := hu.shape
    have EI : Hid (∀ i, i < xss.length → InN xss.length (xss.getD i [])) := fun i hi => arc_in ha hi
    have EL : Hid (∀ i, i < xss.length → (xss.getD i []).length ≤ 4000000) := fun i hi => by have := arc_slen ha hi; omega
    have EP : Hid (∀ i : Nat, nxP xss l (i : Int) = (!inL l (i : Int) && (xss.getD i []).all (inL l))) := fun i => by show _ = _; unfold nxP; simp
    clear h hu hs ha hr hv
    generalize nxP xss l = P at *
    generalize inL l = p at *
    generalize hn : xss.length = N at *
    have HNn := Lib.hid hn
    clear hn
    go_enter Try.func41, Try.ntmps41
    go_wp2_with fail
    refine C0.out.mono ?_
    rintro e w1 ⟨rfl, hb⟩
    have HB1 := Lib.hid hb
    clear hb
    go_wp2_with fail
    refine (C1.out w1 HB1.out).mono ?_
    rintro e w2 ⟨rfl, hm, hb⟩
    have HM2 := Lib.hid hm
    have HB2 : Hid (Below w.heap.size w w2) := HB1.out.trans (hb.mono HB1.out.size)
    have d1 := HB1.out.size
    have d2 : w1.heap.size < w2.heap.size := hm.lt
    clear hm hb
    go_wp2_with fail
    go_loopw [7, 18] (fun q i wr => ∃ k : Nat, k ≤ N ∧ i = .int .i64 k ∧ Row wr w2.heap.size q (sel P k) ∧ SetM wr w1.heap.size N p ∧ Below w2.heap.size w2 wr) (fun _ i _ => N - (RowKit.intOf i).toNat)
    case atStart => exact ⟨0, Nat.zero_le _, rfl, Row.nil _ _, HM2.out, Below.refl _ _⟩
    case round =>
      obtain ⟨k, hk, rfl, hrw, hm, hb⟩ := hrel
      have HR := Lib.hid hrw
      have HM := Lib.hid hm
      have HB := Lib.hid hb
      clear hrw hm hb
      have HBr : Hid (Below w.heap.size w wr) := HB2.out.trans (HB.out.mono HB2.out.size)
      by_cases hlt : k < N
      · have HSr := Lib.hid (HS.out.below HBr.out)
        obtain ⟨b, off, A', c', rfl, _, q1, hse⟩ := HSr.out.row (k := k) (by rw [HNn.out]; omega)
        have C2 := Lib.hid (c_areMarked w1.heap.size N p _ _ wr (EL.out k hlt) (by omega) HM.out hse (EI.out k hlt))
        have b1 : (0 : Int) ≤ (k : Int) := by omega
        have b2 : (k : Int) < (N : Int) := by omega
        have hrun := HM.out.look (k : Int) b1 b2 (by omega)
        have EPk := Lib.hid (EP.out k)
        have hlen := sel_len P k
        have sw := HB.out.size
        clear hse
        generalize (xss.getD k []).length = mm at *
        cases hp : p (k : Int)
        · rw [hp] at hrun EPk
          rw [Bool.not_false, Bool.true_and] at EPk
          clear hp
          cases ht : (xss.getD k []).all p
          · rw [ht] at C2 EPk
            clear ht
            go_wp2_with fail
            refine C2.out.mono ?_
            rintro e w4 ⟨rfl, hb4⟩
            have HB4 : Hid (Below w2.heap.size w2 w4) := HB.out.trans (hb4.mono HB.out.size)
            have HM4 := Lib.hid (HM.out.below hb4 HM.out.lt)
            have HR4 := Lib.hid (HR.out.below hb4)
            clear hb4
            go_wp2
            go_roundw
            case rel => exact ⟨k + 1, by omega, by go_num, by rw [sel_miss EPk.out]; exact HR4.out, HM4.out, HB4.out⟩
            case measure => simp [RowKit.intOf]; omega
          · rw [ht] at C2 EPk
            clear ht
            go_wp2_with fail
            refine C2.out.mono ?_
            rintro e w4 ⟨rfl, hb4⟩
            have HB4 : Hid (Below w2.heap.size w2 w4) := HB.out.trans (hb4.mono HB.out.size)
            have HM4 := Lib.hid (HM.out.below hb4 HM.out.lt)
            have HR4 := Lib.hid (HR.out.below hb4)
            have sw4 := HB4.out.size
            clear hb4
            go_wp2_with (at_builtin; refine wpList_append_own _ rfl _ _ 27 rfl (w2.heap.size) 3 i0 (.int .i64 0) 1 8 Try.underlying27 HI.out hz0 hz1 hz2 rfl (by decide) _ _ _ rfl (World.ownsRow.alloc HR4.out _) ⟨w4.heap.size, 0, none⟩ 1 1 [.int .i64 k] rfl rfl ?c1 ?c2 ?c3 ?c4 ?c5 ?_)
            case c1 =>
              intro j u hj
              match j, hj with
              | 0, hj => simp at hj; subst hj; simp [Addr.add]
            case c2 => intro u hu; simp at hu; subst hu; rfl
            case c3 => unfold maxLen; omega
            case c4 => omega
            case c5 => simp; omega
            intro v' w5 hown' hgrow _
            have R1 : Hid (Row w5 w2.heap.size v' (sel P (k + 1))) := by rw [sel_hit EPk.out]; exact row_more hown'
            have R2 : Hid (Below w2.heap.size w2 w5) := (HB4.out.alloc sw4 _).grown hgrow (by simp; omega) (fun g hg => (World.ownsRow.lt HR4.out g hg).1)
            have R3 : Hid (SetM w5 w1.heap.size N p) := HM2.out.below R2.out d2
            clear hown' hgrow
            go_wp2
            go_roundw
            case rel => exact ⟨k + 1, by omega, by go_num, R1.out, R3.out, R2.out⟩
            case measure => simp [RowKit.intOf]; omega
        · rw [hp] at hrun EPk
          rw [Bool.not_true, Bool.false_and] at EPk
          clear hp
          go_wp2
          go_roundw
          case rel => exact ⟨k + 1, by omega, by go_num, by rw [sel_miss EPk.out]; exact HR.out, HM.out, HB.out⟩
          case measure => simp [RowKit.intOf]; omega
      · obtain rfl : k = N := by omega
        have G := Lib.hid (HR.out.mono HB2.out.size)
        go_wp2
        go_ret2
        exact ⟨_, rfl, by rw [HL.out]; exact G.out, HBr.out⟩

theorem inL_one (i y : Int) : inL [i] y = (y == i) := by unfold inL; rw [Bool.eq_iff_iff]; simp

set_option maxHeartbeats 4000000 in
set_option maxRecDepth 100000 in
theorem c_BelowOf (xss : List (List Int)) (i : Int) (v : Value) (w : World) (hs : ShortL xss) (h : SeenL w v xss) :
    Calls Try.prog 28 #[v, .int .i64 i] w (GivesRow2 w (beA xss i) (vB xss [i])) := by
  have HS := Lib.hid h
  have HB0 : Hid (Below w.heap.size w (w.alloc (.cells #[.int .i64 i] 3))) := (Below.refl _ _).alloc (Nat.le_refl _) _
  have C0 := Lib.hid (c_areArcsAndList xss [i] v (.slice (some ⟨w.heap.size, 0, none⟩) 1 1) (w.alloc (.cells #[.int .i64 i] 3)) hs (by simp) (h.below HB0.out) (one_seen i w _))
  have HV : Hid (vB xss [i] = (arcB xss && risB xss.length [i])) := rfl
  rw [← HV.out] at C0
  cases hv : vB xss [i]
  · have HL : Hid (beA xss i = []) := by show _ = _; unfold beA; rw [hv]; rfl
    rw [hv] at C0
    obtain ⟨A, c, rfl, _⟩ := h.shape
    clear h hs hv HV
    go_enter Try.func28, Try.ntmps28
    go_wp2_with fail
    refine C0.out.mono ?_
    rintro e w1 ⟨rfl, rfl⟩
    go_wp2
    go_ret2
    exact ⟨_, rfl, by rw [HL.out]; exact Row.nil _ _, HB0.out⟩
  · have HL : Hid (beA xss i = sel (upS xss (inL [i]) xss.length) xss.length) := by show _ = _; unfold beA; rw [hv]; rfl
    rw [hv] at C0
    obtain ⟨ha, hr⟩ := vB_iff.1 hv
    have hN := arc_len ha
    have C1 : Hid (∀ u, Below w.heap.size w u → Calls Try.prog 59 #[.slice (some ⟨u.heap.size, 0, none⟩) 1 1] (u.alloc (.cells #[.int .i64 i] 3)) fun e w' => e = .returned (.map (some (u.heap.size + 1))) ∧ SetM w' (u.heap.size + 1) xss.length (inL [i]) ∧ Below (u.heap.size + 1) (u.alloc (.cells #[.int .i64 i] 3)) w') := fun u hu => by
      have := c_marksOf xss.length [i] (.slice (some ⟨u.heap.size, 0, none⟩) 1 1) (u.alloc (.cells #[.int .i64 i] 3)) (by simp) (by omega) (one_seen i u _) (InN.ris hr)
      simpa using this
    obtain ⟨A, c, rfl, _⟩ := h.shape
    have EI : Hid (∀ i, i < xss.length → InN xss.length (xss.getD i [])) := fun i hi => arc_in ha hi
    have EL : Hid (∀ i, i < xss.length → (xss.getD i []).length ≤ 4000000) := fun i hi => by have := arc_slen ha hi; omega
    obtain ⟨S, hS⟩ : ∃ S, S = upS xss (inL [i]) := ⟨_, rfl⟩
    have E0 : Hid (S 0 = inL [i]) := by rw [hS]; rfl
    have EY : Hid (∀ k, (xss.getD k []).any (S k) = true → (fun y => y == (k : Int) || S k y) = S (k + 1)) := fun k hk => by
      rw [hS] at hk ⊢
      show _ = (if _ then _ else _)
      rw [if_pos hk]
    have EN : Hid (∀ k, (xss.getD k []).any (S k) = false → S k = S (k + 1)) := fun k hk => by
      rw [hS] at hk ⊢
      show _ = (if _ then _ else _)
      rw [if_neg (by rw [hk]; simp)]
    rw [← hS] at HL
    clear h hs ha hr hv hS HV
    generalize hn : xss.length = N at *
    have HNn := Lib.hid hn
    clear hn
    go_enter Try.func28, Try.ntmps28
    go_wp2_with fail
    refine C0.out.mono ?_
    rintro e w1 ⟨rfl, ew1⟩
    have HB1 : Hid (Below w.heap.size w w1) := by rw [← ew1]; exact HB0.out
    clear ew1 C0 HB0
    go_wp2_with fail
    refine (C1.out w1 HB1.out).mono ?_
    rintro e w2 ⟨rfl, hm, hb⟩
    have HB2a : Hid (Below w.heap.size w w2) := (HB1.out.alloc HB1.out.size _).trans (hb.mono (by have := HB1.out.size; omega))
    have HM2a := Lib.hid hm
    have d2 : w1.heap.size + 1 < w2.heap.size := hm.lt
    have d1 := HB1.out.size
    have HB2 : Hid (Below w.heap.size w (w2.alloc (.cells #[.map (some (w1.heap.size + 1))] 50))) := HB2a.out.alloc HB2a.out.size _
    have HM2 : Hid (SetM (w2.alloc (.cells #[.map (some (w1.heap.size + 1))] 50)) (w1.heap.size + 1) N (S 0)) := by rw [E0.out]; exact HM2a.out.kept (World.grownBy_alloc _ _ none) (by simp)
    have hc2 : Hid ((w2.alloc (.cells #[.map (some (w1.heap.size + 1))] 50)).cell? ⟨w2.heap.size, 0, none⟩ = some (.map (some (w1.heap.size + 1)))) := by simp [Hid]
    have hz2 : Hid (w2.heap.size < (w2.alloc (.cells #[.map (some (w1.heap.size + 1))] 50)).heap.size) := by simp [Hid]
    clear hm hb
    go_upto_region 4 with fail
    generalize (w2.alloc (.cells #[.map (some (w1.heap.size + 1))] 50)) = w3 at *
    go_wp2_with fail
    go_loopw [19] (fun q wr => ∃ k : Nat, k ≤ N ∧ q = .int .i64 k ∧ SetM wr (w1.heap.size + 1) N (S k) ∧ w3.grownBy wr (some (w1.heap.size + 1))) (fun q _ => N - (RowKit.intOf q).toNat)
    case atStart => exact ⟨0, Nat.zero_le _, rfl, HM2.out, World.grownBy.refl _ _⟩
    case round =>
      obtain ⟨k, hk, rfl, hm, hg⟩ := hrel
      have HM := Lib.hid hm
      have HG := Lib.hid hg
      clear hm hg
      have HBr : Hid (Below w.heap.size w wr) := HB2.out.grown HG.out HB2.out.size (fun k hk => by cases hk; omega)
      have pc : wr.cell? ⟨w2.heap.size, 0, none⟩ = some (.map (some (w1.heap.size + 1))) := by rw [cell_kept HG.out hz2.out (by simp; omega)]; exact hc2.out
      have pl : w2.heap.size < wr.heap.size := Nat.lt_of_lt_of_le hz2.out HG.out.size
      by_cases hlt : k < N
      · have HSr := Lib.hid (HS.out.below HBr.out)
        obtain ⟨b, off, A', c', rfl, _, q1, hse⟩ := HSr.out.row (k := k) (by rw [HNn.out]; omega)
        have C2 := Lib.hid (c_containsIs w2.heap.size (w1.heap.size + 1) N (S k) _ _ wr (EL.out k hlt) (by omega) pc HM.out hse (EI.out k hlt))
        have b1 : (0 : Int) ≤ (k : Int) := by omega
        have b2 : (k : Int) < (N : Int) := by omega
        have EYk := Lib.hid (EY.out k)
        have ENk := Lib.hid (EN.out k)
        clear hse
        generalize (xss.getD k []).length = mm at *
        cases ht : (xss.getD k []).any (S k)
        · have G := Lib.hid (ENk.out ht)
          rw [ht] at C2
          clear ht
          go_wp2_with fail
          refine C2.out.mono ?_
          rintro e w4 ⟨rfl, rfl⟩
          go_wp2
          go_roundw
          case rel => exact ⟨k + 1, by omega, by go_num, by rw [← G.out]; exact HM.out, HG.out⟩
          case measure => simp [RowKit.intOf]; omega
        · have G := Lib.hid (EYk.out ht)
          rw [ht] at C2
          clear ht
          go_wp2_with fail
          refine C2.out.mono ?_
          rintro e w4 ⟨rfl, ew4⟩
          subst ew4
          obtain ⟨w5, hrun, hm5, hg5⟩ := HM.out.put (k : Int) b1 b2 (by omega)
          rw [G.out] at hm5
          have HM5 := Lib.hid hm5
          have HG5 : Hid (w3.grownBy w5 (some (w1.heap.size + 1))) := HG.out.trans hg5
          clear hm5 hg5
          go_wp2
          go_roundw
          case rel => exact ⟨k + 1, by omega, by go_num, HM5.out, HG5.out⟩
          case measure => simp [RowKit.intOf]; omega
      · obtain rfl : k = N := by omega
        go_wp2_with fail
        refine (c_markedBlocks (w1.heap.size + 1) k (S k) wr (by omega) HM.out).mono ?_
        rintro e w5 ⟨q, rfl, hq, hb2⟩
        have HQ := Lib.hid (hq.mono HBr.out.size)
        have HB5 : Hid (Below w.heap.size w w5) := HBr.out.trans (hb2.mono HBr.out.size)
        clear hq hb2
        go_wp2
        go_ret2
        exact ⟨_, rfl, by rw [HL.out]; exact HQ.out, HB5.out⟩
end Go.Proofs.Ytffknfgejoejoaa
