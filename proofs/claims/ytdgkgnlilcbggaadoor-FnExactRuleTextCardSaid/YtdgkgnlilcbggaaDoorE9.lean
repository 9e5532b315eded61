/-
  Contracts: what each part of a list takes, in the model.
-/
import Derived.Test.YtdgkgnlilcbggaaDoorU4
import Derived.Test.YtdgkgnlilcbggaaDoorAQ
import Derived.Test.YtdgkgnlilcbggaaDoorRV
import Derived.Test.YtdgkgnlilcbggaaDoorE6
import Derived.Test.YtdgkgnlilcbggaaDoorE7
namespace Go.Proofs.YtdgkgnlilcbggaaDoor
open Go.RowKit
set_option linter.unusedVariables false

/-- A part that lies in a block of memory. -/
structure Box2 (w : World) (b : Nat) (x y : Int) : Prop where
  lt : b < w.heap.size
  c0 : w.cell? ⟨b, 0, none⟩ = some (.int .i64 x)
  c1 : w.cell? ⟨b, 1, none⟩ = some (.int .i64 y)
theorem Box2.below {w w' : World} {b : Nat} {x y : Int} (h : Box2 w b x y) (hb : Below w.heap.size w w') : Box2 w' b x y :=
  ⟨Nat.lt_of_lt_of_le h.lt hb.size, by rw [hb.cell (p := ⟨b, 0, none⟩) h.lt]; exact h.c0, by rw [hb.cell (p := ⟨b, 1, none⟩) h.lt]; exact h.c1⟩
theorem Box2.new (w : World) (x y : Int) (T : TypeId) : Box2 (w.alloc (.cells #[.int .i64 x, .int .i64 y] T)) w.heap.size x y := ⟨by simp, by simp, by simp⟩

/-- A list of lists and a bool. -/
def GivesTree (w : World) (xss : List (List Int)) (b tb : Bool) (e : Ending) (w' : World) : Prop :=
  ∃ v', e = .returned (.tuple #[v', .bool b]) ∧ (tb = true → Rows w' w.heap.size w'.heap.size v' xss) ∧ Below w.heap.size w w'

set_option maxHeartbeats 400000 in
theorem c_l1Most (a b : Int) (w : World) : Calls Tryd.prog 27 #[.int .i64 a, .int .i64 b] w fun e w' => e = .returned (.int .i64 (max a b)) ∧ w = w' := by
  by_cases h : b < a
  all_goals
    go_enter Tryd.func27, Tryd.ntmps27
    go_wp2
    go_ret
    exact ⟨ret_int (by omega), rfl⟩

theorem Rows.up {w : World} {B U U' : Nat} {v : Value} {xss : List (List Int)} (h : Rows w B U v xss) (hU : U ≤ U') : Rows w B U' v xss := by
  obtain ⟨vs, h⟩ := h
  exact ⟨vs, h.len, h.own, fun k e => Nat.lt_of_lt_of_le (h.top k e) hU, h.row, fun i k hi e => Nat.lt_of_lt_of_le (h.rtop i k hi e) hU, h.apart⟩
theorem row_same {w w' : World} {B : Nat} {v : Value} {xs : List Int} (h : Row w B v xs) {o : Option Nat} (hg : w.grownBy w' o) (ha : v.ownBlock = none ∨ v.ownBlock ≠ o) : Row w' B v xs := World.ownsRow.kept h hg ha
/-- A list of ints cut at a place: what the model hands to l1Own. -/
theorem cut_forms {w : World} {B : Nat} {A : Option Addr} {L c q : Nat} {xs : List Int} (hx : xs.length = L) (hq : q ≤ L) (h : Row w B (.slice A L c) xs) :
    (A = none ∧ Src w 1 none (L - q) (c - q) (ints (xs.drop q))) ∨ (∃ g, A = some ⟨g, 0, none⟩ ∧ c = q ∧ Src w 1 (some ⟨g, 0, none⟩) 0 0 (ints (xs.drop q))) ∨ (∃ g, A = some ⟨g, 0, none⟩ ∧ ¬ c = q ∧ Src w 1 (some ⟨g, q, none⟩) (L - q) (c - q) (ints (xs.drop q))) := by
  obtain ⟨hform, kc, hsrc⟩ := row_src hx h
  obtain ⟨_, s2⟩ := hsrc q hq
  rcases hform with e | ⟨g, e⟩
  · subst e
    exact .inl ⟨rfl, by simpa using s2⟩
  · subst e
    by_cases e' : c = q
    · rw [if_pos e', e', Nat.sub_self, show L - q = 0 by omega] at s2
      exact .inr (.inl ⟨g, rfl, e', s2⟩)
    · rw [if_neg e'] at s2
      exact .inr (.inr ⟨g, rfl, e', by simpa [addr_add] using s2⟩)

set_option maxHeartbeats 8000000 in
set_option maxRecDepth 100000 in
theorem c_ruTree (n : Nat) (xs : List Int) (v : Value) (w : World) (hl : n ≤ 39) (h0 : 0 < n) (h : SeenP w v n xs) :
    Calls Tryd.prog 16 #[v] w (GivesTree w (kidsTo (kdf xs) n) (treeB n xs) (parAll n xs && fullB (kdf xs) n)) := by
  obtain ⟨i0, hi0, hz0, hz1, hz2⟩ := info_parts int_info
  have HI := Lib.hid hi0
  obtain ⟨j0, hj0, jz0, jz1, jz2⟩ := info_parts (show (Tryd.prog.info? 42).map (fun i => (i.zero, i.size, i.bytes)) = some (some (.slice none 0 0), 1, 24) by kernel_rfl)
  have HJ := Lib.hid hj0
  obtain ⟨b, off, c, rfl, hb, hcell⟩ := seen_cells h h0
  have E1 := Lib.hid hcell
  have T0 : Hid (∀ k : Nat, k < n → (parB (xs.getD (k * 2) 0) (xs.getD (k * 2 + 1) 0) = false ∨ ¬ ndA (kdf xs) k ≤ (stk (kdf xs) k).length) → treeB n xs = false ∧ (parAll n xs && fullB (kdf xs) n) = false) := fun k hk h => by
    have : (parAll n xs && fullB (kdf xs) n) = false := by
      rcases h with h | h
      · rw [parAll_false hk h]; rfl
      · rw [fullB_false hk h, Bool.and_false]
    exact ⟨by unfold treeB; rw [this]; rfl, this⟩
  have T1 : Hid (ParTo xs n → FullTo (kdf xs) n → treeB n xs = decide ((stk (kdf xs) n).length = 1)) := fun h1 h2 => by
    unfold treeB; rw [parAll_true h1, fullB_true h2]; rfl
  have EO : Hid (∀ k, (opI (kdf xs) k).length = (stk (kdf xs) k).length) := opI_len _
  have EN : Hid (∀ k, ndA (kdf xs) k = ndK (xs.getD (k * 2) 0)) := fun k => rfl
  have ES : Hid (∀ k, (opI (kdf xs) k).take ((stk (kdf xs) k).length - ndA (kdf xs) k) ++ [(k : Int)] = opI (kdf xs) (k + 1)) := fun k => opI_succ.symm
  have EK : Hid (∀ k, ndA (kdf xs) k ≤ (stk (kdf xs) k).length → (opI (kdf xs) k).drop ((stk (kdf xs) k).length - ndA (kdf xs) k) = kidI (kdf xs) k) := fun k h => (kidI_drop h).symm
  have EP : Hid (∀ k, kidsTo (kdf xs) k ++ [kidI (kdf xs) k] = kidsTo (kdf xs) (k + 1)) := kidsTo_succ _
  have EL : Hid (∀ k, (kidsTo (kdf xs) k).length = k) := kidsTo_len _
  have EZ : Hid (opI (kdf xs) 0 = []) := rfl
  have EZ2 : Hid (kidsTo (kdf xs) 0 = []) := rfl
  have ESz : Hid (∀ k, (stk (kdf xs) k).length ≤ k) := stk_len _
  clear hi0 hj0 hcell h
  generalize (parAll n xs && fullB (kdf xs) n) = TB at *
  generalize treeB n xs = R at *
  generalize kdf xs = ks at *
  generalize opI ks = O at *
  generalize kidsTo ks = KT at *
  go_enter Tryd.func16, Tryd.ntmps16
  go_wp2_with fail
  go_loopw [4, 5, 11] (fun ot op i wr => ∃ k : Nat, k ≤ n ∧ i = .int .i64 k ∧ ParTo xs k ∧ FullTo ks k ∧ Row wr w.heap.size op (O k) ∧ Rows wr w.heap.size wr.heap.size ot (KT k) ∧ Below w.heap.size w wr) (fun _ _ i _ => n - (intOf i).toNat)
  case atStart => exact ⟨0, Nat.zero_le _, rfl, ParTo.zero _, FullTo.zero _, by rw [EZ.out]; exact Row.nil _ _, by rw [EZ2.out]; exact Rows.nil _ _ _, Below.refl _ _⟩
  case round =>
    obtain ⟨k, hk, rfl, hP, hF, hr, hrs, hbw⟩ := hrel
    have HP := Lib.hid hP
    have HF := Lib.hid hF
    have HR := Lib.hid hr
    have HRs := Lib.hid hrs
    have HB := Lib.hid hbw
    clear hP hF hr hrs hbw
    obtain ⟨OA, OC, hov⟩ := HR.out.shape
    subst hov
    obtain ⟨L, hL⟩ : ∃ L, (O k).length = L := ⟨_, rfl⟩
    have HLk := Lib.hid hL
    have HLs : Hid ((stk ks k).length = L) := by rw [← EO.out k]; exact hL
    have hLk : L ≤ k := by have := ESz.out k; rw [HLs.out] at this; exact this
    rw [hL] at HR ⊢
    clear hL
    by_cases hlt : k < n
    · obtain ⟨q0, q1⟩ := E1.out wr HB.out k hlt
      have T0k := Lib.hid (T0.out k hlt)
      rw [EN.out k, HLs.out] at T0k
      have gP : Hid (parB (xs.getD (k * 2) 0) (xs.getD (k * 2 + 1) 0) = true → ParTo xs (k + 1)) := fun h => HP.out.succ h
      have gF : Hid (ndK (xs.getD (k * 2) 0) ≤ L → FullTo ks (k + 1)) := fun h => HF.out.succ (by rw [EN.out, HLs.out]; exact h)
      have gS := Lib.hid (ES.out k)
      have gK := Lib.hid (EK.out k)
      rw [EN.out k, HLs.out] at gS gK
      generalize xs.getD (k * 2) 0 = t at *
      generalize xs.getD (k * 2 + 1) 0 = m at *
      have b1 : (0 : Int) ≤ (k : Int) := by omega
      have b2 : (k : Int) < (n : Int) := by omega
      have hba : Below wr.heap.size wr (wr.alloc (.cells #[.int .i64 t, .int .i64 m] 33)) := (Below.refl _ _).alloc (Nat.le_refl _) _
      have HBa : Hid (Below w.heap.size w (wr.alloc (.cells #[.int .i64 t, .int .i64 m] 33))) := HB.out.trans (hba.mono HB.out.size)
      have HX1 : Hid (Box2 (wr.alloc (.cells #[.int .i64 t, .int .i64 m] 33)) wr.heap.size t m) := Box2.new _ _ _ _
      have HR1 := Lib.hid (HR.out.below hba)
      have HRs1 := Lib.hid (HRs.out.below hba (Nat.le_refl _))
      have sz1 := hba.size
      clear hba
      go_wp2_with fail
      refine (c_ruPart _ _ _).mono ?_
      rintro e w2 ⟨rfl, hb2⟩
      have HB2 : Hid (Below w.heap.size w w2) := HBa.out.trans (hb2.mono HBa.out.size)
      have HX2 := Lib.hid (HX1.out.below hb2)
      have HR2 := Lib.hid (HR1.out.below hb2)
      have HRs2 := Lib.hid (HRs1.out.below hb2 sz1)
      have sz2 : wr.heap.size ≤ w2.heap.size := Nat.le_trans sz1 hb2.size
      clear hb2
      have d0 := HX2.out.c0
      have d1 := HX2.out.c1
      cases hp : parB t m
      · obtain ⟨g1, g2⟩ := T0k.out (.inl hp)
        have G1 := Lib.hid g1
        have G2 := Lib.hid g2
        clear hp g1 g2
        go_wp2
        go_ret2
        exact ⟨.slice none 0 0, by rw [G1.out]; rfl, fun h => (by rw [G2.out] at h; cases h), HB2.out⟩
      · have GP := Lib.hid (gP.out hp)
        clear hp
        go_wp2_with fail
        refine (c_ruNeeds t w2).mono ?_
        rintro e w3 ⟨rfl, rfl⟩
        have nd4 : ndK t ≤ 4 := by rcases ndK_cases t with h | h | h <;> omega
        by_cases hd : ndK t ≤ L
        · have GF := Lib.hid (gF.out hd)
          have GK := Lib.hid (gK.out hd)
          have hq : L - ndK t ≤ L := by omega
          have hi : ((L : Int) - (ndK t : Int)) = ((L - ndK t : Nat) : Int) := by omega
          have hd' : ¬ (L : Int) < (ndK t : Int) := by omega
          have CN := Lib.hid (c_ruNeeds t w2)
          have kX : Hid (((O k).take (L - ndK t)).length = L - ndK t) := by show _ = _; rw [List.length_take, HLk.out]; omega
          have kY : Hid (((O k).drop (L - ndK t)).length = L - (L - ndK t)) := by show _ = _; rw [List.length_drop, HLk.out]
          have hq20 : L - ndK t ≤ 39 := by omega
          clear hd
          generalize ndK t = d at *
          generalize hqq : L - d = q at *
          clear hqq
          have KTk : Hid (∀ u, Row u w.heap.size (.slice OA L OC) (O k) → Calls Tryd.prog 26 #[.slice OA q OC] u (GivesRow u ((O k).take q))) := fun u hu => c_l1OwnA OA q OC _ u (by rw [kX.out]; omega) kX.out ((row_src HLk.out hu).2.2 q hq).1
          have hLc := (row_src HLk.out HR2.out).2.1
          have HC3 := Lib.hid (cut_forms HLk.out hq HR2.out)
          generalize hX : (O k).take q = X at *
          generalize hY : (O k).drop q = Y at *
          clear hX hY
          have q1' : (0 : Int) ≤ (q : Int) := by omega
          have q2' : (q : Int) ≤ (L : Int) := by omega
          have q3' : (q : Int) ≤ (OC : Int) := by omega
          have q4' : (q : Int) ≤ 39 := by omega
          have HW2 : Hid (Below w2.heap.size w2 w2) := Below.refl _ _
          have hEL := EL.out k
          have HELk := Lib.hid hEL
          clear hEL
          go_wp2_with fail
          refine CN.out.mono ?_
          rintro e w4 ⟨rfl, rfl⟩
          rcases HC3.out with ⟨rfl, hs2⟩ | ⟨g, rfl, rfl, hs2⟩ | ⟨g, rfl, hcq, hs2⟩
          all_goals
            have CD := Lib.hid (c_l1OwnA _ _ _ Y w2 (by have := kY.out; omega) (by have := kY.out; omega) hs2)
            clear hs2 HC3
            go_wp2_with fail
            refine CD.out.mono ?_
            rintro e w4 ⟨v4, rfl, hr4, hb4⟩
            obtain ⟨VA, VC, rfl⟩ := hr4.shape
            have HK4 := Lib.hid hr4
            have HR4 := Lib.hid (HR2.out.below hb4)
            have HRs4 := Lib.hid (HRs2.out.below hb4 sz2)
            have HB4 : Hid (Below w.heap.size w w4) := HB2.out.trans (hb4.mono HB2.out.size)
            have sz4 : wr.heap.size ≤ w4.heap.size := Nat.le_trans sz2 hb4.size
            have sw2 := HB2.out.size
            have sw4 := HB4.out.size
            clear hr4 hb4
            have hbb : Below w4.heap.size w4 (w4.alloc (.cells #[.slice VA Y.length VC] 42)) := (Below.refl _ _).alloc (Nat.le_refl _) _
            have HK5 := Lib.hid ((HK4.out.below hbb).mono sw2)
            have HO5 : Hid (∀ j, (Value.slice VA Y.length VC).ownBlock = some j → wr.heap.size ≤ j) := fun j hj => Nat.le_trans sz2 (World.ownsRow.lt HK4.out j hj).1
            have HR5 := Lib.hid (HR4.out.below hbb)
            have HB5 : Hid (Below w.heap.size w (w4.alloc (.cells #[.slice VA Y.length VC] 42))) := HB4.out.trans (hbb.mono HB4.out.size)
            obtain ⟨vs, hv5⟩ := HRs4.out.below hbb sz4
            have HV5 := Lib.hid hv5
            clear hv5 hbb
            go_wp2_with (at_builtin; refine wpList_append_own _ rfl _ _ 39 rfl w.heap.size 42 j0 (.slice none 0 0) 1 24 Tryd.underlying39 HJ.out jz0 jz1 jz2 rfl (by decide) _ _ _ rfl HV5.out.own ⟨w4.heap.size, 0, none⟩ 1 1 [.slice VA Y.length VC] rfl rfl ?c1 ?c2 ?c3 ?c4 ?c5 ?_)
            case c1 =>
              intro q u hq
              match q, hq with
              | 0, hq => simp at hq; subst hq; simp [Addr.add]
            case c2 => intro u hu; simp at hu; subst hu; rfl
            case c3 => rw [HELk.out]; unfold maxLen; omega
            case c4 => rw [HELk.out]; omega
            case c5 => simp; omega
            intro v6 w6 hown6 hgrow6 _
            have N1 : Hid (Rows w6 w.heap.size w6.heap.size v6 (KT (k + 1))) := ⟨_, by
              have := HV5.out.push HK5.out HO5.out hown6 hgrow6
              rw [GK.out, EP.out] at this
              exact this⟩
            have HR6 := Lib.hid (row_same HR5.out hgrow6 (HV5.out.apart_row HR5.out))
            have HB6 : Hid (Below w.heap.size w w6) := HB5.out.grown hgrow6 (by simp; omega) (fun g hg => (World.ownsRow.lt HV5.out.own g hg).1)
            clear hown6 hgrow6
            go_wp2_with fail
            refine (KTk.out w6 HR6.out).mono ?_
            rintro e w7 ⟨v7, rfl, hr7, hb7⟩
            have HR7 := Lib.hid hr7
            have N7 := Lib.hid (N1.out.below hb7 (Nat.le_refl _))
            have HB7 : Hid (Below w.heap.size w w7) := HB6.out.trans (hb7.mono HB6.out.size)
            have sz7 := hb7.size
            have sw6 := HB6.out.size
            clear hr7 hb7
            go_wp2_with (at_builtin; refine wpList_append_src rfl _ _ 42 rfl (base := w6.heap.size) Tryd.underlying42 HI.out hz0 hz1 hz2 rfl (by decide) rfl (World.ownsRow.alloc HR7.out _) rfl (src_one (x := k) (by simp)) ints_ones ?c3 ?c4 ?c5 ?_)
            case c3 => rw [kX.out]; unfold maxLen; omega
            case c4 => rw [kX.out]; omega
            case c5 => simp; omega
            intro v8 w8 hown8 hgrow8 _
            have R8 := Lib.hid ((row_app (xs := X) (ys := [(k : Int)]) (n := X.length + 1) rfl hown8).mono sw6)
            rw [gS.out] at R8
            have B8 : Hid (Below w6.heap.size w7 w8) := ((Below.refl _ _).alloc sz7 _).grown hgrow8 (by simp; omega) (fun g hg => (World.ownsRow.lt HR7.out g hg).1)
            have N8 : Hid (Rows w8 w.heap.size w8.heap.size v6 (KT (k + 1))) := Rows.up (N7.out.below B8.out (Nat.le_refl _)) (Nat.le_trans sz7 B8.out.size)
            have HB8 : Hid (Below w.heap.size w w8) := HB7.out.trans (B8.out.mono sw6)
            clear hown8 hgrow8
            go_wp2
            go_roundw
            case rel => exact ⟨k + 1, by omega, by go_num, GP.out, GF.out, R8.out, N8.out, HB8.out⟩
            case measure => simp [intOf]; omega
        · obtain ⟨g1, g2⟩ := T0k.out (.inr hd)
          have G1 := Lib.hid g1
          have G2 := Lib.hid g2
          have hd' : (L : Int) < (ndK t : Int) := by omega
          clear g1 g2 hd gF gK gS
          go_wp2
          go_ret2
          exact ⟨.slice none 0 0, by rw [G1.out]; rfl, fun h => (by rw [G2.out] at h; cases h), HB2.out⟩
    · obtain rfl : k = n := by omega
      have G1 := Lib.hid (T1.out HP.out HF.out)
      rw [HLs.out] at G1
      have G3 : Hid ((((L : Nat) : Int) == 1) = decide (L = 1)) := by
        show _ = _
        rw [Bool.eq_iff_iff]
        simp
        omega
      go_wp2
      go_ret2
      exact ⟨u4, by rw [G1.out, ← G3.out]; rfl, fun _ => HRs.out, HB.out⟩
end Go.Proofs.YtdgkgnlilcbggaaDoor
