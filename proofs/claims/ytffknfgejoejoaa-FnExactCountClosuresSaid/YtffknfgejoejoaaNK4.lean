/-
  Contracts: CountClosures of the program.
-/
import Derived.Test.YtffknfgejoejoaaNK2
import Derived.Test.YtffknfgejoejoaaNK3
import Derived.Test.YtffknfgejoejoaaNA
namespace Go.Proofs.Ytffknfgejoejoaa
open Go.RowKit
set_option linter.unusedVariables false

theorem uint_info : (Try.prog.info? 59).map (fun i => (i.zero, i.size, i.bytes)) = some (some (.int .u64 0), 1, 8) := by kernel_rfl
/-- The rows of cones after k of them and t bits of the next. -/
def coF (co : Nat → Nat) (l : List Int) (k t j : Nat) : Nat := if j < k then co j else if j = k then bitsT l t else 0

set_option maxHeartbeats 8000000 in
set_option maxRecDepth 100000 in
theorem c_CountClosures (xss : List (List Int)) (v : Value) (w : World) (hs : ShortL xss) (h : SeenL w v xss) (CL : ∀ (n : Nat) (w : World), n < 1048576 → Calls Try.prog 86 #[.int .u64 n] w fun e w' => e = .returned (.int .i64 (bitLen n)) ∧ w = w') :
    Calls Try.prog 45 #[v] w fun e w' => e = .returned (.tuple #[.int .i64 (cloV xss), .bool (cloB xss)]) ∧ Below w.heap.size w w' := by
  have C0 := Lib.hid (c_AreArcs xss v w hs h)
  cases hv : arcB xss
  · have e1 : cloB xss = false := by unfold cloB; rw [hv]; rfl
    have e2 : cloV xss = 0 := by unfold cloV cloN; rw [e1]; rfl
    rw [hv] at C0
    rw [e1, e2]
    obtain ⟨A, c, rfl, _⟩ := h.shape
    clear h hs hv e1 e2
    go_enter Try.func45, Try.ntmps45
    go_wp2_with fail
    refine C0.out.mono ?_
    rintro e w1 ⟨rfl, rfl⟩
    go_wp2
    go_ret2
    exact ⟨rfl, Below.refl _ _⟩
  · rw [hv] at C0
    have hN := arc_len hv
    by_cases h20 : xss.length ≤ 20
    case neg =>
      have e1 : cloB xss = false := by unfold cloB; rw [hv, decide_eq_false h20]; rfl
      have e2 : cloV xss = 0 := by unfold cloV cloN; rw [e1]; rfl
      rw [e1, e2]
      obtain ⟨A, c, rfl, _⟩ := h.shape
      clear h hs hv e1 e2
      have h21 : (20 : Int) < (xss.length : Int) := by omega
      go_enter Try.func45, Try.ntmps45
      go_wp2_with fail
      refine C0.out.mono ?_
      rintro e w1 ⟨rfl, rfl⟩
      go_wp2
      go_ret2
      exact ⟨rfl, Below.refl _ _⟩
    case pos =>
    have e1 : cloB xss = true := cloB_iff.2 ⟨hv, h20⟩
    have e2 : cloV xss = ((cw (coN xss) xss.length (2 ^ xss.length - 1) : Nat) : Int) := by unfold cloV cloN; rw [if_pos e1]
    rw [e1, e2]
    obtain ⟨i0, hi0, hz0, hz1, hz2⟩ := info_parts uint_info
    have H1 : Hid (∀ i, i < xss.length → (coN xss i).testBit i = true) := fun i hi => coN_own hv hi
    have hp20 : 2 ^ xss.length ≤ 1048576 := Nat.pow_le_pow_right (n := 2) (by omega) h20
    have H2 : Hid (∀ i, i < xss.length → coN xss i < 1048576) := fun i _ => Nat.lt_of_lt_of_le (coN_lt xss i) hp20
    have CC : Hid (∀ (a : Int) (u : Value) (w2 : World), 0 ≤ a → a < (xss.length : Int) → Below w.heap.size w w2 → Seen w2 u [a] → Calls Try.prog 67 #[v, u] w2 (GivesRow w2 (clL xss [a]))) := fun a u w2 h1 h2 hb hse => c_closeList xss [a] v u w2 hv (fun x hx => by simp at hx; subst hx; exact ⟨h1, h2⟩) (by simp) (h.below hb) hse
    have CW : Hid (∀ (g : Nat) (w2 : World), NumB .u64 59 w2 g xss.length (coN xss) → Calls Try.prog 77 #[.slice (some ⟨g, 0, none⟩) xss.length xss.length, .int .u64 ((2 ^ xss.length - 1 : Nat) : Int)] w2 fun e w' => e = .returned (.int .i64 (cw (coN xss) xss.length (2 ^ xss.length - 1))) ∧ Below w2.heap.size w2 w') := fun g w2 hn =>
      c_countWithin (coN xss) xss.length g h20 H1.out H2.out CL xss.length (2 ^ xss.length - 1) w2 (by have := Nat.two_pow_pos xss.length; omega) (by have := Nat.two_pow_pos xss.length; omega) hn
    have HCL : Hid (∀ a : Int, InN xss.length (clL xss [a])) := fun a => sel_in _ _
    have HCN : Hid (∀ a : Int, (clL xss [a]).length ≤ 20) := fun a => by have := clL_len xss [a]; show _ ≤ _; omega
    have HCO : Hid (∀ k : Nat, bitsT (clL xss [(k : Int)]) (clL xss [(k : Int)]).length = coN xss k) := fun k => rfl
    have u1 : IntKind.u64.wrap ((2 : Int) ^ xss.length) = ((2 ^ xss.length : Nat) : Int) := u64_shl1 _ (by omega)
    have u2 : IntKind.u64.wrap (((2 ^ xss.length : Nat) : Int) - 1) = ((2 ^ xss.length - 1 : Nat) : Int) := by
      have := Nat.two_pow_pos xss.length
      rw [IntKind.wrap_u64]
      generalize 2 ^ xss.length = z at *
      rw [Int.emod_eq_of_lt (by omega) (by omega)]
      omega
    have hpp := Nat.two_pow_pos xss.length
    obtain ⟨A, c, rfl, _⟩ := h.shape
    clear h hs hv e1 e2 H1 H2
    generalize cw (coN xss) xss.length (2 ^ xss.length - 1) = ans at *
    generalize 2 ^ xss.length - 1 = P1 at *
    generalize 2 ^ xss.length = P at *
    generalize coN xss = co at *
    generalize hn : xss.length = N at *
    clear hn
    obtain ⟨cl, hcl⟩ : ∃ cl : Int → List Int, cl = fun a => clL xss [a] := ⟨_, rfl⟩
    have hmk : (Instr.makeSlice 60 (.int .i64 (N : Int)) (.int .i64 (N : Int))).run Try.prog w = .ok (.slice (some ⟨w.heap.size, 0, none⟩) N N) (w.alloc (.cells (madeCells #[.int .u64 0] N) 59)) := by
      have := run_make (P := Try.prog) w 60 59 i0 (.int .u64 0) Try.underlying60 hi0 hz0 .i64 .i64 (N : Int) (N : Int) (by omega) (by omega) (by rw [hz2]; omega) (by omega)
      simpa [hz1, Value.cells] using this
    have HM0 : Hid (NumB .u64 59 (w.alloc (.cells (madeCells #[.int .u64 0] N) 59)) w.heap.size N (coF co [] 0 0)) := (NumB.new .u64 59 w N (by unfold maxLen; omega)).congr fun k hk => by
      unfold coF
      rw [if_neg (by omega)]
      split <;> rfl
    clear hi0 hz0 hz1 hz2
    go_enter Try.func45, Try.ntmps45
    go_wp2_with fail
    refine C0.out.mono ?_
    rintro e w' ⟨rfl, rfl⟩
    go_wp2
    clear hmk
    go_loopw [21] (fun i wr => ∃ k : Nat, k ≤ N ∧ i = .int .i64 k ∧ NumB .u64 59 wr w.heap.size N (coF co [] k 0) ∧ Below w.heap.size w wr) (fun i _ => N - (RowKit.intOf i).toNat)
    case atStart => exact ⟨0, Nat.zero_le _, rfl, HM0.out, (Below.refl _ _).alloc (Nat.le_refl _) _⟩
    case round =>
      obtain ⟨k, hk, rfl, hm, hb⟩ := hrel
      obtain ⟨wo, ewo⟩ : ∃ u, u = wr := ⟨_, rfl⟩
      subst ewo
      have HM := Lib.hid hm
      have HB := Lib.hid hb
      clear hm hb
      by_cases hlt : k < N
      · have hgo := HM.out.lt (by omega)
        have HBa : Hid (Below wo.heap.size wo (wo.alloc (.cells #[.int .i64 k] 3))) := (Below.refl _ _).alloc (Nat.le_refl _) _
        have C1 := Lib.hid (CC.out (k : Int) (.slice (some ⟨wo.heap.size, 0, none⟩) 1 1) (wo.alloc (.cells #[.int .i64 k] 3)) (by omega) (by omega) (HB.out.trans (HBa.out.mono HB.out.size)) (one_seen k wo _))
        have EI := Lib.hid (HCL.out (k : Int))
        have hyl := HCN.out (k : Int)
        have EO := Lib.hid (HCO.out k)
        generalize clL xss [(k : Int)] = ys at *
        have b1 : (0 : Int) ≤ (k : Int) := by omega
        have b2 : (k : Int) < (N : Int) := by omega
        go_wp2_with fail
        refine C1.out.mono ?_
        rintro e w2 ⟨q, rfl, hq, hb2⟩
        have HB2 : Hid (Below wo.heap.size wo w2) := HBa.out.trans (hb2.mono HBa.out.size)
        have HBw : Hid (Below w.heap.size w w2) := HB.out.trans (HB2.out.mono HB.out.size)
        have HQ : Hid (Row w2 (w.heap.size + 1) q ys) := hq.mono (by simp; omega)
        have HM2 : Hid (NumB .u64 59 w2 w.heap.size N (coF co ys k 0)) := (HM.out.below HB2.out hgo).congr fun j hj => by
          unfold coF
          split
          · rfl
          · split <;> rfl
        obtain ⟨AQ, cQ, hsq⟩ := hq.shape
        subst hsq
        clear hq hb2
        go_wp2_with fail
        go_loopw [29] (fun i wr => ∃ t : Nat, t ≤ ys.length ∧ i = .int .i64 t ∧ NumB .u64 59 wr w.heap.size N (coF co ys k t) ∧ Row wr (w.heap.size + 1) (.slice AQ ys.length cQ) ys ∧ Below w.heap.size w wr) (fun i _ => ys.length - (RowKit.intOf i).toNat)
        case atStart => exact ⟨0, Nat.zero_le _, rfl, HM2.out, HQ.out, HBw.out⟩
        case round =>
          obtain ⟨t, ht, rfl, hm, hr, hb⟩ := hrel
          have HM3 := Lib.hid hm
          have HR3 := Lib.hid hr
          have HB3 := Lib.hid hb
          clear hm hr hb
          by_cases htl : t < ys.length
          · obtain ⟨bQ, oQ, rfl, _, q0⟩ := HR3.out.seen.at2 htl
            have hx := EI.out _ (getD_memN htl)
            have hbt := Nat.lt_of_lt_of_le (bitsT_lt EI.out t ht) (Nat.pow_le_pow_right (n := 2) (by omega) (show N ≤ 20 from h20))
            have hbs : bitsT ys (t + 1) = bitsT ys t ||| 2 ^ (ys.getD t 0).toNat := rfl
            generalize ys.getD t 0 = x at *
            obtain ⟨m, rfl⟩ := Int.eq_ofNat_of_zero_le hx.1
            have hmN : m < N := by omega
            have q1 := HM3.out.cell k hlt
            have q2 := HM3.out.frozen k
            have hF : coF co ys k t k = bitsT ys t := by unfold coF; rw [if_neg (by omega), if_pos rfl]
            rw [hF] at q1
            have v1 := u64_shl1 m (by omega)
            have hpm : 2 ^ m < 2 ^ 20 := Nat.pow_lt_pow_right (by omega) (by omega)
            have v2 := u64_or_nat (bitsT ys t) (2 ^ m) (by omega) (by omega)
            rw [Int.toNat_natCast] at hbs
            rw [← hbs] at v2
            have N1 := Lib.hid (fun u (hu : NumB .u64 59 u w.heap.size N (coF co ys k t)) => NumB.put (q := coF co ys k (t + 1)) (b := bitsT ys (t + 1)) hu hlt fun j hj => by
              unfold coF
              by_cases e : j = k
              · rw [e, if_neg (by omega), if_pos rfl, if_pos rfl]
              · rw [if_neg e, if_neg e, if_neg e])
            have t1 : (0 : Int) ≤ (t : Int) := by omega
            have t2 : (t : Int) < (ys.length : Int) := by omega
            clear hF hbs
            generalize 2 ^ m = PM at *
            generalize bitsT ys (t + 1) = B1 at *
            generalize bitsT ys t = B0 at *
            go_upto_region 10 with fail
            go_region
            obtain ⟨n1, n2⟩ := N1.out wr HM3.out
            have HM4 : Hid (NumB .u64 59 (wr.setCell ⟨w.heap.size, k, none⟩ (.int .u64 B1)).drew w.heap.size N (coF co ys k (t + 1))) := own_stays n1 fun _ _ => rfl
            have HR4 : Hid (Row (wr.setCell ⟨w.heap.size, k, none⟩ (.int .u64 B1)).drew (w.heap.size + 1) (.slice (some ⟨bQ, oQ, none⟩) ys.length cQ) ys) := own_stays HR3.out fun kk hkk => by
              have hl := World.ownsRow.lt HR3.out kk hkk
              refine n2.block kk hl.2 fun e => ?_
              simp at e
              omega
            have HB4 : Hid (Below w.heap.size w (wr.setCell ⟨w.heap.size, k, none⟩ (.int .u64 B1)).drew) := (HB3.out.setCell (Nat.le_refl _) _).drew
            clear n1 n2 N1
            generalize (wr.setCell ⟨w.heap.size, k, none⟩ (.int .u64 B1)).drew = w5 at *
            go_wp2
            go_roundw
            case rel => exact ⟨t + 1, by omega, by go_num, HM4.out, HR4.out, HB4.out⟩
            case measure => simp [RowKit.intOf]; omega
          · obtain rfl : t = ys.length := by omega
            have HM5 : Hid (NumB .u64 59 wr w.heap.size N (coF co [] (k + 1) 0)) := HM3.out.congr fun j hj => by
              unfold coF
              by_cases e : j < k
              · rw [if_pos e, if_pos (by omega)]
              · rw [if_neg e]
                by_cases e2 : j = k
                · rw [if_pos e2, if_pos (by omega), e2]; exact EO.out
                · rw [if_neg e2, if_neg (by omega)]
                  split <;> rfl
            go_wp2
            go_roundw
            case rel => exact ⟨k + 1, by omega, by go_num, HM5.out, HB3.out⟩
            case measure => simp [RowKit.intOf]; omega
      · obtain rfl : k = N := by omega
        have HM5 : Hid (NumB .u64 59 wo w.heap.size k co) := HM.out.congr fun j hj => by
          unfold coF
          rw [if_pos hj]
        have C2 := Lib.hid (CW.out _ wo HM5.out)
        go_wp2_with fail
        refine C2.out.mono ?_
        rintro e w2 ⟨rfl, hb2⟩
        have HB2 : Hid (Below w.heap.size w w2) := HB.out.trans (hb2.mono HB.out.size)
        clear hb2
        go_wp2
        go_ret2
        exact ⟨rfl, HB2.out⟩
end Go.Proofs.Ytffknfgejoejoaa
