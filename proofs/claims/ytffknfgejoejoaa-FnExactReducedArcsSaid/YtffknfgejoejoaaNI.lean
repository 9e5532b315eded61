/-
  Contracts: arcs reduced, in the model.
-/
import Derived.Test.YtffknfgejoejoaaNH
import Derived.Test.YtffknfgejoejoaaNJ
namespace Go.Proofs.Ytffknfgejoejoaa
open Go.RowKit
set_option linter.unusedVariables false

theorem kept_yes {xss : List (List Int)} {l : List Int} {t : Nat} (ht : t < l.length) (h : ndB xss l (l.getD t 0) = false) : keptL xss l (t + 1) = keptL xss l t ++ [l.getD t 0] := by
  unfold keptL
  rw [List.take_succ_eq_append_getElem ht, List.filter_append, show l.getD t 0 = l[t] by simp [ht]]
  rw [show l.getD t 0 = l[t] by simp [ht]] at h
  simp [h]
theorem kept_no {xss : List (List Int)} {l : List Int} {t : Nat} (ht : t < l.length) (h : ndB xss l (l.getD t 0) = true) : keptL xss l (t + 1) = keptL xss l t := by
  unfold keptL
  rw [List.take_succ_eq_append_getElem ht, List.filter_append]
  rw [show l.getD t 0 = l[t] by simp [ht]] at h
  simp [h]
theorem kept_len (xss : List (List Int)) (l : List Int) (t : Nat) : (keptL xss l t).length ≤ l.length := by
  unfold keptL
  exact Nat.le_trans (List.length_filter_le _ _) (by rw [List.length_take]; omega)
/-- Whether one of the first s of a list shows that k is needless. -/
def ndT (xss : List (List Int)) (l : List Int) (k : Int) (s : Nat) : Bool := (l.take s).any fun a => decide (k < a) && inL (clL xss [a]) k
theorem ndT_succ {xss : List (List Int)} {l : List Int} {k : Int} {s : Nat} (hs : s < l.length) : ndT xss l k (s + 1) = (ndT xss l k s || (decide (k < l.getD s 0) && inL (clL xss [l.getD s 0]) k)) := by
  unfold ndT
  rw [List.take_succ_eq_append_getElem hs, List.any_append, show l.getD s 0 = l[s] by simp [hs]]
  simp
theorem ndT_all (xss : List (List Int)) (l : List Int) (k : Int) : ndT xss l k l.length = ndB xss l k := by unfold ndT ndB; rw [List.take_length]

set_option maxHeartbeats 8000000 in
set_option maxRecDepth 100000 in
theorem c_ReducedArcsS (xss : List (List Int)) (v : Value) (w : World) (hs : ShortL xss) (h : SeenL w v xss) :
    Calls Try.prog 46 #[v] w (GivesRows2 w (reA xss) (arcB xss)) := by
  have C0 := Lib.hid (c_clArcs xss v w hs h)
  cases hv : arcB xss
  · have HL : Hid (reA xss = []) := by show _ = _; unfold reA; rw [hv]; rfl
    rw [hv] at C0
    obtain ⟨A, c, rfl, _⟩ := h.shape
    clear h hs hv
    go_enter Try.func46, Try.ntmps46
    go_wp2_with fail
    refine C0.out.mono ?_
    rintro e w1 ⟨rfl, rfl⟩
    go_wp2
    go_ret2
    exact ⟨_, rfl, by rw [HL.out]; exact Rows.nil _ _ _, Below.refl _ _⟩
  · have HL : Hid (reA xss = rdL xss) := by show _ = _; unfold reA; rw [hv]; rfl
    rw [hv] at C0
    have hN := arc_len hv
    obtain ⟨i0, hi0, hz0, hz1, hz2⟩ := info_parts list_info
    obtain ⟨j0, hj0, hy0, hy1, hy2⟩ := info_parts int_info
    have HI := Lib.hid hi0
    have HJ := Lib.hid hj0
    clear hi0 hj0
    have CU : Hid (∀ (a : Int) (u : World), 0 ≤ a → a < (xss.length : Int) → Below w.heap.size w u → Calls Try.prog 55 #[v, .int .i64 a] u (GivesRow u (clL xss [a]))) := fun a u h1 h2 hu => c_clUp xss a v u hv (fun x hx => by simp at hx; subst hx; exact ⟨h1, h2⟩) (h.below hu)
    have CL : Hid (∀ a : Int, (clL xss [a]).length ≤ 4000000) := fun a => by have := clL_len xss [a]; show _ ≤ _; omega
    obtain ⟨A, c, rfl, _⟩ := h.shape
    have ER : Hid (∀ k, k < xss.length → ∃ b off A' c', A = some ⟨b, off, none⟩ ∧ ∀ u, Below w.heap.size w u → u.cell? ⟨b, off + k, none⟩ = some (.slice A' (xss.getD k []).length c') ∧ Seen u (.slice A' (xss.getD k []).length c') (xss.getD k [])) := fun k hk => h.row2 hk
    have EI : Hid (∀ i, i < xss.length → ∀ t, t < (xss.getD i []).length → 0 ≤ (xss.getD i []).getD t 0 ∧ (xss.getD i []).getD t 0 < (xss.length : Int)) := fun i hi t ht => arc_in hv hi _ (getD_memN ht)
    have EL : Hid (∀ i, i < xss.length → (xss.getD i []).length ≤ 120) := fun i hi => arc_slen hv hi
    obtain ⟨O, hO⟩ : ∃ O : Nat → List (List Int), O = fun k => (rdL xss).take k := ⟨_, rfl⟩
    have O0 : Hid (O 0 = []) := by rw [hO]; rfl
    have O1 : Hid (∀ k, k < xss.length → O k ++ [keptL xss (xss.getD k []) (xss.getD k []).length] = O (k + 1)) := fun k hk => by
      rw [hO]
      simp only
      rw [kept_all hv (arc_in hv hk) (arc_at hv hk), ← rdL_at hk, List.take_succ_eq_append_getElem (by rw [rdL_len]; exact hk)]
      simp [rdL_len, hk]
    have OE : Hid (O xss.length = reA xss) := by show _ = _; rw [HL.out, hO]; simp only; exact List.take_of_length_le (by rw [rdL_len]; exact Nat.le_refl _)
    have OL : Hid (∀ k, k ≤ xss.length → (O k).length = k) := fun k hk => by rw [hO]; simp [rdL_len]; omega
    clear h hs hv hO HL
    generalize hn : xss.length = N at *
    clear hn
    go_enter Try.func46, Try.ntmps46
    go_wp2_with fail
    refine C0.out.mono ?_
    rintro e w' ⟨rfl, rfl⟩
    go_wp2_with fail
    go_loopw [4, 18] (fun o i wr => ∃ k : Nat, k ≤ N ∧ i = .int .i64 k ∧ Rows wr w.heap.size wr.heap.size o (O k) ∧ Below w.heap.size w wr) (fun _ i _ => N - (RowKit.intOf i).toNat)
    case atStart => exact ⟨0, Nat.zero_le _, rfl, by rw [O0.out]; exact Rows.nil _ _ _, Below.refl _ _⟩
    case round =>
      obtain ⟨k, hk, rfl, hr, hb⟩ := hrel
      obtain ⟨wo, ewo⟩ : ∃ u, u = wr := ⟨_, rfl⟩
      subst ewo
      obtain ⟨AO, CO, hso⟩ := hr.shape
      rw [OL.out k hk] at hso
      subst hso
      have HR := Lib.hid hr
      have HB := Lib.hid hb
      clear hr hb
      by_cases hlt : k < N
      · obtain ⟨b, off, A', c', rfl, hE⟩ := ER.out k hlt
        have HE := Lib.hid hE
        obtain ⟨q1, _⟩ := hE wo HB.out
        have EIk := Lib.hid (EI.out k hlt)
        have ELk := EL.out k hlt
        have O1k := Lib.hid (O1.out k hlt)
        have b1 : (0 : Int) ≤ (k : Int) := by omega
        have b2 : (k : Int) < (N : Int) := by omega
        clear hE
        generalize xss.getD k [] = ys at *
        have KY : Hid (∀ t, t < ys.length → ndB xss ys (ys.getD t 0) = false → keptL xss ys (t + 1) = keptL xss ys t ++ [ys.getD t 0]) := fun t => kept_yes
        have KN : Hid (∀ t, t < ys.length → ndB xss ys (ys.getD t 0) = true → keptL xss ys (t + 1) = keptL xss ys t) := fun t => kept_no
        have KL : Hid (∀ t, (keptL xss ys t).length ≤ ys.length) := kept_len xss ys
        have K0 : Hid (keptL xss ys 0 = []) := rfl
        have T0 : Hid (∀ x, ndT xss ys x 0 = false) := fun x => rfl
        have T1 : Hid (∀ x s, s < ys.length → ndT xss ys x (s + 1) = (ndT xss ys x s || (decide (x < ys.getD s 0) && inL (clL xss [ys.getD s 0]) x))) := fun x s hs => ndT_succ hs
        have TE : Hid (∀ x, ndT xss ys x ys.length = ndB xss ys x) := fun x => ndT_all xss ys x
        generalize keptL xss ys = K at *
        generalize ndT xss ys = T at *
        generalize ndB xss ys = ND at *
        go_wp2_with fail
        go_loopw [7, 24] (fun q x wz => ∃ t : Nat, t ≤ ys.length ∧ x = .int .i64 t ∧ Row wz wo.heap.size q (K t) ∧ Below wo.heap.size wo wz) (fun _ x _ => ys.length - (RowKit.intOf x).toNat)
        case atStart => exact ⟨0, Nat.zero_le _, rfl, by rw [K0.out]; exact Row.nil _ _, Below.refl _ _⟩
        case round =>
          obtain ⟨t, ht, rfl, hr, hb⟩ := hrel
          obtain ⟨wi, ewi⟩ : ∃ u, u = wr := ⟨_, rfl⟩
          subst ewi
          obtain ⟨AK, CK, hsk⟩ := hr.shape
          subst hsk
          have HRK := Lib.hid hr
          have HBi := Lib.hid hb
          clear hr hb
          have HBw : Hid (Below w.heap.size w wi) := HB.out.trans (HBi.out.mono HB.out.size)
          by_cases htl : t < ys.length
          · have HSi := Lib.hid (HE.out _ HBw.out).2
            obtain ⟨bY, oY, rfl, _, q2⟩ := HSi.out.at2 htl
            obtain ⟨s0, s1⟩ := EIk.out t htl
            have KYt := Lib.hid (KY.out t htl)
            have KNt := Lib.hid (KN.out t htl)
            have hkl := KL.out t
            have hx0 : Hid (ys.getD t 0 = ys.getD t 0) := rfl
            generalize ys.getD t 0 = x at *
            have T0x := Lib.hid (T0.out x)
            have T1x := Lib.hid (T1.out x)
            have TEx := Lib.hid (TE.out x)
            generalize T x = F at *
            have c1 : (0 : Int) ≤ (t : Int) := by omega
            have c2 : (t : Int) < (ys.length : Int) := by omega
            generalize K t = kt at *
            go_wp2_with fail
            go_loopw [10, 30] (fun d y wz => ∃ s : Nat, s ≤ ys.length ∧ y = .int .i64 s ∧ d = .bool (F s) ∧ Below wi.heap.size wi wz) (fun _ y _ => ys.length - (RowKit.intOf y).toNat)
            case atStart => exact ⟨0, Nat.zero_le _, rfl, by rw [T0x.out], Below.refl _ _⟩
            case round =>
              obtain ⟨s, hs, rfl, rfl, hb⟩ := hrel
              have HBj := Lib.hid hb
              clear hb
              have HBv : Hid (Below w.heap.size w wr) := HBw.out.trans (HBj.out.mono HBw.out.size)
              by_cases hsl : s < ys.length
              · have HSj := Lib.hid (HE.out _ HBv.out).2
                obtain ⟨bZ, oZ, eZ, _, q3⟩ := HSj.out.at2 hsl
                simp only [Option.some.injEq, Addr.mk.injEq] at eZ
                obtain ⟨rfl, rfl, _⟩ := eZ
                obtain ⟨a0, a1⟩ := EIk.out s hsl
                have T1s := Lib.hid (T1x.out s hsl)
                generalize ys.getD s 0 = a at *
                have d1 : (0 : Int) ≤ (s : Int) := by omega
                have d2 : (s : Int) < (ys.length : Int) := by omega
                cases hF : F s
                · rw [hF, Bool.false_or] at T1s
                  by_cases hxa : x < a
                  · rw [decide_eq_true hxa, Bool.true_and] at T1s
                    have hxa' : a > x := hxa
                    have HC1 := Lib.hid (CU.out a wr a0 a1 HBv.out)
                    have hcl := CL.out a
                    clear hF
                    generalize clL xss [a] = cs at *
                    go_wp2_with fail
                    refine HC1.out.mono ?_
                    rintro e w5 ⟨q, rfl, hq, hb5⟩
                    have HQ := Lib.hid hq.seen
                    have HB5 : Hid (Below wi.heap.size wi w5) := HBj.out.trans (hb5.mono HBj.out.size)
                    clear hq hb5
                    go_wp2_with fail
                    refine (c_l1Has cs x q w5 hcl HQ.out).mono ?_
                    rintro e w6 ⟨rfl, rfl⟩
                    rw [hasI_inL, ← T1s.out]
                    go_wp2
                    go_roundw
                    case rel => exact ⟨s + 1, by omega, by go_num, rfl, HB5.out⟩
                    case measure => simp [RowKit.intOf]; omega
                  · rw [decide_eq_false hxa, Bool.false_and] at T1s
                    have hxa' : ¬ a > x := hxa
                    clear hF
                    go_wp2
                    go_roundw
                    case rel => exact ⟨s + 1, by omega, by go_num, by rw [T1s.out], HBj.out⟩
                    case measure => simp [RowKit.intOf]; omega
                · rw [hF, Bool.true_or] at T1s
                  clear hF
                  go_wp2
                  go_roundw
                  case rel => exact ⟨s + 1, by omega, by go_num, by rw [T1s.out], HBj.out⟩
                  case measure => simp [RowKit.intOf]; omega
              · obtain rfl : s = ys.length := by omega
                have HRj := Lib.hid (HRK.out.below HBj.out)
                have HBk : Hid (Below wo.heap.size wo wr) := HBi.out.trans (HBj.out.mono HBi.out.size)
                have sw := HBk.out.size
                cases hF : F ys.length
                · have G := Lib.hid (KYt.out (TEx.out.symm.trans hF))
                  clear hF
                  go_wp2_with (at_builtin; refine wpList_append_own _ rfl _ _ 27 rfl (wo.heap.size) 3 j0 (.int .i64 0) 1 8 Try.underlying27 HJ.out hy0 hy1 hy2 rfl (by decide) _ _ _ rfl (World.ownsRow.alloc HRj.out _) ⟨wr.heap.size, 0, none⟩ 1 1 [.int .i64 x] rfl rfl ?e1 ?e2 ?e3 ?e4 ?e5 ?_)
                  case e1 =>
                    intro j u hj
                    match j, hj with
                    | 0, hj => simp at hj; subst hj; simp [Addr.add]
                  case e2 => intro u hu; simp at hu; subst hu; rfl
                  case e3 => unfold maxLen; omega
                  case e4 => omega
                  case e5 => simp; omega
                  intro v' w5 hown' hgrow _
                  have R1 : Hid (Row w5 wo.heap.size v' (K (t + 1))) := by rw [G.out]; exact row_more hown'
                  have R2 : Hid (Below wo.heap.size wo w5) := (HBk.out.alloc sw _).grown hgrow (by simp; omega) (fun g hg => (World.ownsRow.lt HRj.out g hg).1)
                  clear hown' hgrow
                  go_wp2
                  go_roundw
                  case rel => exact ⟨t + 1, by omega, by go_num, R1.out, R2.out⟩
                  case measure => simp [RowKit.intOf]; omega
                · have G := Lib.hid (KNt.out (TEx.out.symm.trans hF))
                  clear hF
                  go_wp2
                  go_roundw
                  case rel => exact ⟨t + 1, by omega, by go_num, by rw [G.out]; exact HRj.out, HBk.out⟩
                  case measure => simp [RowKit.intOf]; omega
          · obtain rfl : t = ys.length := by omega
            have hlen : (O k).length = k := OL.out k hk
            have HRo := Lib.hid (HR.out.below HBi.out (Nat.le_refl _))
            have hkl := KL.out ys.length
            generalize K ys.length = kt at *
            have hbb : Below wi.heap.size wi (wi.alloc (.cells #[.slice AK kt.length CK] 27)) := (Below.refl _ _).alloc (Nat.le_refl _) _
            have HP6 := Lib.hid ((HRK.out.mono HB.out.size).below hbb)
            have HR6 := Lib.hid (HRo.out.below hbb HBi.out.size)
            have HB6 : Hid (Below w.heap.size w (wi.alloc (.cells #[.slice AK kt.length CK] 27))) := HBw.out.trans (hbb.mono HBw.out.size)
            have hpo : Hid (∀ m, (Value.slice AK kt.length CK).ownBlock = some m → wo.heap.size ≤ m) := fun m hm => (World.ownsRow.lt HRK.out m hm).1
            clear hbb
            obtain ⟨vs, hv6⟩ := HR6.out
            have HV6 := Lib.hid hv6
            clear hv6
            have sz5 := HBw.out.size
            have HLN := Lib.hid hlen
            clear hlen
            have hown : Hid ((wi.alloc (.cells #[.slice AK kt.length CK] 27)).ownsRow w.heap.size 27 1 (.slice AO k CO) k vs) := by
              have := HV6.out.own
              rw [HLN.out] at this
              exact this
            go_wp2_with (at_builtin; refine wpList_append_own _ rfl _ _ 22 rfl w.heap.size 27 i0 (.slice none 0 0) 1 24 Try.underlying22 HI.out hz0 hz1 hz2 rfl (by decide) _ _ _ rfl hown.out ⟨wi.heap.size, 0, none⟩ 1 1 [.slice AK kt.length CK] rfl rfl ?e1 ?e2 ?e3 ?e4 ?e5 ?_)
            case e1 =>
              intro q u hq
              match q, hq with
              | 0, hq => simp at hq; subst hq; simp [Addr.add]
            case e2 => intro u hu; simp at hu; subst hu; rfl
            case e3 => unfold maxLen; omega
            case e4 => omega
            case e5 => simp; omega
            intro v' w7 hown' hgrow _
            have N1 : Hid (Rows w7 w.heap.size w7.heap.size v' (O (k + 1))) := ⟨_, by
              have := HV6.out.push HP6.out (fun m hm => hpo.out m hm) (by rw [HLN.out]; exact hown') hgrow
              rw [O1k.out] at this
              exact this⟩
            have N2 : Hid (Below w.heap.size w w7) := HB6.out.grown hgrow (by simp; omega) (fun g hg => (World.ownsRow.lt hown.out g hg).1)
            clear hown' hgrow
            go_wp2
            go_roundw
            case rel => exact ⟨k + 1, by omega, by go_num, N1.out, N2.out⟩
            case measure => simp [RowKit.intOf]; omega
      · obtain rfl : k = N := by omega
        have G := Lib.hid HR.out
        rw [OE.out] at G
        go_wp2
        go_ret2
        exact ⟨_, rfl, G.out, HB.out⟩
end Go.Proofs.Ytffknfgejoejoaa
