/-
  Contracts: ParseModel of the model.
-/
import Derived.Test.YtgibkjjjnfjbkaaDoorLT2
import Derived.Test.YtgibkjjjnfjbkaaDoorLS2
import Derived.Test.YtgibkjjjnfjbkaaDoorM4
namespace Go.Proofs.YtgibkjjjnfjbkaaDoor
open Go.RowKit
set_option linter.unusedVariables false
set_option linter.unusedSimpArgs false

/-- Strings that stand from a place on. -/
structure StrAt (w : World) (b o : Nat) (ps : List (List UInt8)) : Prop where
  lt : b < w.heap.size
  c : ∀ k, k < ps.length → w.cell? ⟨b, o + k, none⟩ = some (.string ⟨(ps.getD k []).toArray⟩)
theorem StrAt.same {w w' : World} {b o : Nat} {ps : List (List UInt8)} (h : StrAt w b o ps) (hs : w'.heap[b]? = w.heap[b]?) (hz : w.heap.size ≤ w'.heap.size) : StrAt w' b o ps :=
  ⟨Nat.lt_of_lt_of_le h.lt hz, fun k hk => (World.cell?_of_block (w := w) hs).trans (h.c k hk)⟩
theorem StrAt.below {w w' : World} {b o : Nat} {ps : List (List UInt8)} (h : StrAt w b o ps) (hb : Below w.heap.size w w') : StrAt w' b o ps := h.same (hb.block b h.lt) hb.size
theorem StrAt.kept {w wa w' : World} {b o : Nat} {ps : List (List UInt8)} {row : Option Nat} (h : StrAt w b o ps) (hb : Below w.heap.size w wa) (hg : wa.grownBy w' row) (hr : row ≠ some b) : StrAt w' b o ps :=
  (h.below hb).same (hg.block b (h.below hb).lt (fun e => hr (by simpa using e.symm))) hg.size
theorem StrAt.app {w wa w' : World} {b o L j : Nat} {v : Value} {ps : List (List UInt8)} {row : Option Nat} (h : StrAt w b o ps) (hb : Below w.heap.size w wa) (hg : wa.grownBy w' row) (hr : row ≠ some b) (hL : L ≠ b) : StrAt (w'.setCell ⟨L, j, none⟩ v) b o ps :=
  (h.kept hb hg hr).same ((gb_setCell w' L j v).block b (h.kept hb hg hr).lt (fun e => hL (by simpa using e.symm))) (by simp)
theorem RowS.at_ {w : World} {B : Nat} {v : Value} {ps : List (List UInt8)} (h : RowS w B v ps) (h0 : 0 < ps.length) : ∃ g c, v = .slice (some ⟨g, 0, none⟩) ps.length c ∧ B ≤ g ∧ StrAt w g 0 ps ∧ ps.length ≤ c := by
  obtain ⟨g, c, rfl, hB, hl⟩ := World.ownsRow.form h h0
  refine ⟨g, c, rfl, hB, ⟨hl, fun k hk => ?_⟩, ?_⟩
  · rw [Nat.zero_add, World.ownsRow.cellAt h k (by omega)]
    simp [strs, hk]
  · rcases h.2 with ⟨e, _⟩ | ⟨g', cap, cur, e, h3⟩
    · cases e
    · simp at e
      obtain ⟨_, rfl⟩ := e
      exact h3.2.2.1
theorem ba_ne {a b : ByteArray} (h : ¬ a = b) : (a == b) = false ∧ (a != b) = true := by
  have e : (a == b) = false := by
    cases hb : a == b
    · rfl
    · have e : (a.data == b.data) = true := hb
      have e2 := eq_of_beq e
      cases a
      cases b
      exact absurd (congrArg ByteArray.mk e2) h
  exact ⟨e, by unfold bne; rw [e]; rfl⟩
theorem ba_self (a : ByteArray) : (a == a) = true ∧ (a != a) = false := by
  have e : (a == a) = true := by
    show (a.data == a.data) = true
    exact beq_self_eq_true _
  exact ⟨e, by unfold bne; rw [e]; rfl⟩
theorem ba_list {a b : ByteArray} (h : ¬ a = b) : (a.toList == b.toList) = false := by
  rw [ByteArray.toList_eq, ByteArray.toList_eq]
  exact beq_eq_false_iff_ne.2 fun e => h (ByteArray.ext (Array.ext' e))
/-- What the model answers. -/
def mpB (s : List UInt8) : Bool := mdB s && (moB (mdX 0 s) (mdX 1 s) (mdX 2 s) (mdT 0 s) (mdT 1 s) (mdT 2 s) && decide (mtS (mdX 0 s) (mdX 1 s) (mdX 2 s) (mdT 0 s) (mdT 1 s) (mdT 2 s) = ⟨s.toArray⟩))
def mpX (j : Nat) (s : List UInt8) : Int := if mpB s then mdX j s else 0
def mpL (j : Nat) (s : List UInt8) : List Int := if mpB s then mdT j s else []
theorem mp_no {s : List UInt8} (h : mpB s = false) : (∀ j, mpX j s = 0) ∧ ∀ j, mpL j s = [] := ⟨fun j => by unfold mpX; rw [h]; rfl, fun j => by unfold mpL; rw [h]; rfl⟩
theorem mdP_next {j : Nat} {ls : List (List UInt8)} {k : Nat} (hk : k < ls.length) : mdP j (ls.take (k + 1)) = mdP j (ls.take k) ++ (if (spb 32 [] (ls.getD k [])).length = 3 then [rdL ((spb 32 [] (ls.getD k [])).getD j [])] else []) := by
  unfold mdP
  rw [List.take_succ_eq_append_getElem hk, List.flatMap_append, show ls[k] = ls.getD k [] by simp [hk]]
  simp

set_option maxHeartbeats 16000000 in
set_option maxRecDepth 100000 in
theorem c_ParseModelS (s : ByteArray) (w : World) (hs : s.size ≤ 1048576) :
    Calls Tryd.prog 4 #[.string s] w (GivesMB w (mpX 0 s.data.toList) (mpX 1 s.data.toList) (mpX 2 s.data.toList) (mpL 0 s.data.toList) (mpL 1 s.data.toList) (mpL 2 s.data.toList) (mpB s.data.toList)) := by
  obtain ⟨i0, hi0, hz0, hz1, hz2⟩ := info_parts int_info
  have HI := Lib.hid hi0
  have HR0 : Hid (Six (w.alloc (.cells #[.int .i64 0, .int .i64 0, .int .i64 0, .slice none 0 0, .slice none 0 0, .slice none 0 0] 26)) w.heap.size 0 0 0 (.slice none 0 0) (.slice none 0 0) (.slice none 0 0)) := Six.new _ _ _ _ _ _ _ _
  have HB0 : Hid (Below w.heap.size w (w.alloc (.cells #[.int .i64 0, .int .i64 0, .int .i64 0, .slice none 0 0, .slice none 0 0, .slice none 0 0] 26))) := (Below.refl _ _).alloc (Nat.le_refl _) _
  have hsz : s.data.toList.length = s.size := by simp
  obtain ⟨l, hl⟩ : ∃ l, s.data.toList = l := ⟨_, rfl⟩
  have hsl : (⟨l.toArray⟩ : ByteArray) = s := by rw [← hl]
  have hl0 : l.length ≤ 1048576 := by rw [← hl]; omega
  have NO : Hid (mpB l = false → mpX 0 l = 0 ∧ mpX 1 l = 0 ∧ mpX 2 l = 0 ∧ mpL 0 l = [] ∧ mpL 1 l = [] ∧ mpL 2 l = []) := fun h => ⟨(mp_no h).1 0, (mp_no h).1 1, (mp_no h).1 2, (mp_no h).2 0, (mp_no h).2 1, (mp_no h).2 2⟩
  have CSp : Hid (∀ (b : UInt8) (p : List UInt8) w1, p.length ≤ 1048576 → Calls Tryd.prog 9 #[.string ⟨p.toArray⟩, .int .u8 (b.toNat : Int)] w1 (GivesS w1 (spb b [] p))) := fun b p w1 hp => by
    have := c_l1Split b ⟨p.toArray⟩ w1 (by show p.toArray.size ≤ _; simpa using hp)
    simpa using this
  have HRd : Hid (∀ (p : List UInt8) w1, Calls Tryd.prog 10 #[.string ⟨p.toArray⟩] w1 fun e w' => e = .returned (.int .i64 (rdL p)) ∧ w1 = w') := fun p w1 => by
    have := c_l1Read ⟨p.toArray⟩ w1
    simpa using this
  have C10 : Hid (∀ w1, Calls Tryd.prog 9 #[.string s, .int .u8 10] w1 (GivesS w1 (mdL l))) := fun w1 => by rw [← hsl]; exact CSp.out 10 l w1 hl0
  have C32 : Hid (∀ w1, Calls Tryd.prog 9 #[.string ⟨((mdL l).getD 0 []).toArray⟩, .int .u8 32] w1 (GivesS w1 (mdW l))) := fun w1 => CSp.out 32 _ w1 (by
    have h1 : 0 < (mdL l).length := (spb_len 10 l []).2
    have hm : (mdL l).getD 0 [] ∈ mdL l := by rw [List.getD_eq_getElem?_getD, List.getElem?_eq_getElem h1]; exact List.getElem_mem h1
    have h5 := spb_piece 10 l [] ((mdL l).getD 0 []) hm
    have h7 : ([] : List UInt8).length = 0 := rfl
    omega)
  have hll := (spb_len 10 l [])
  have hlp : ∀ k, ((mdL l).getD k []).length ≤ 1048576 := fun k => by
    by_cases hk : k < (mdL l).length
    · have hm : (mdL l).getD k [] ∈ mdL l := by rw [List.getD_eq_getElem?_getD, List.getElem?_eq_getElem hk]; exact List.getElem_mem hk
      have h5 := spb_piece 10 l [] ((mdL l).getD k []) hm
      have h7 : ([] : List UInt8).length = 0 := rfl
      omega
    · rw [List.getD_eq_getElem?_getD, List.getElem?_eq_none (by omega)]; simp
  have hwp : ∀ k, ((mdW l).getD k []).length ≤ 1048576 := fun k => by
    by_cases hk : k < (mdW l).length
    · have hm : (mdW l).getD k [] ∈ mdW l := by rw [List.getD_eq_getElem?_getD, List.getElem?_eq_getElem hk]; exact List.getElem_mem hk
      have h5 := spb_piece 32 ((mdL l).getD 0 []) [] ((mdW l).getD k []) hm
      have h6 := hlp 0
      have h7 : ([] : List UInt8).length = 0 := rfl
      omega
    · rw [List.getD_eq_getElem?_getD, List.getElem?_eq_none (by omega)]; simp
  have HLP := Lib.hid hlp
  have C120 : Hid (∀ w1, Calls Tryd.prog 9 #[.string ⟨((mdW l).getD 1 []).toArray⟩, .int .u8 120] w1 (GivesS w1 (mdN l))) := fun w1 => CSp.out 120 _ w1 (hwp 1)
  have hl1 : 1 ≤ (mdL l).length ∧ (mdL l).length ≤ 1048577 := ⟨hll.2, by have := hll.1; unfold mdL; omega⟩
  have hw1 : 1 ≤ (mdW l).length ∧ (mdW l).length ≤ 1048577 := ⟨(spb_len 32 ((mdL l).getD 0 []) []).2, by have := (spb_len 32 ((mdL l).getD 0 []) []).1; have := hlp 0; unfold mdW; omega⟩
  have hn1 : 1 ≤ (mdN l).length ∧ (mdN l).length ≤ 1048577 := ⟨(spb_len 120 ((mdW l).getD 1 []) []).2, by have := (spb_len 120 ((mdW l).getD 1 []) []).1; have := hwp 1; unfold mdN; omega⟩
  have HN1 : Hid (¬ ((mdL l).length ≤ 122 ∧ (mdW l).length = 2 ∧ (mdN l).length = 3) → mpB l = false) := fun h => by unfold mpB mdB; rw [decide_eq_false h]; rfl
  rw [hl]
  obtain ⟨s0, hs0⟩ : ∃ p, (mdL l).getD 0 [] = p := ⟨_, rfl⟩
  obtain ⟨s1, hs1⟩ : ∃ p, (mdW l).getD 1 [] = p := ⟨_, rfl⟩
  have HS0 := Lib.hid hs0
  have HS1 := Lib.hid hs1
  rw [hs0] at C32
  rw [hs1] at C120
  clear hi0 hll hlp hwp hsz hs0 hs1
  go_enter Tryd.func4, Tryd.ntmps4
  go_wp2_with fail
  generalize w.alloc (.cells #[.int .i64 0, .int .i64 0, .int .i64 0, .slice none 0 0, .slice none 0 0, .slice none 0 0] 26) = w0 at *
  refine (C10.out _).mono ?_
  rintro e w1 ⟨q1, rfl, hq1, hb⟩
  have HR1 := Lib.hid (HR0.out.below hb)
  have HB1 := Lib.hid (HB0.out.trans (hb.mono HB0.out.size))
  obtain ⟨lb, lc, rfl, hlb, hls, hlc⟩ := hq1.at_ (by omega)
  have HZ1 := Lib.hid hls
  have q0 := hls.c 0 (by omega)
  rw [Nat.add_zero, HS0.out] at q0
  have hb0 := hb.size
  clear hb hq1 hls C10 HR0 HB0
  go_wp2_with fail
  refine (C32.out _).mono ?_
  rintro e w2 ⟨q2, rfl, hq2, hb⟩
  have HR2 := Lib.hid (HR1.out.below hb)
  have HB2 := Lib.hid (HB1.out.trans (hb.mono HB1.out.size))
  have HZ2 := Lib.hid (HZ1.out.below hb)
  obtain ⟨wb, wc, rfl, hwb, hwS, _⟩ := hq2.at_ (by omega)
  have HW2 := Lib.hid hwS
  clear hb hq2 hwS C32 HR1 HB1 HZ1 q0
  by_cases h1 : (mdL l).length ≤ 122
  · have h1' : ¬ ((mdL l).length : Int) > 122 := by omega
    by_cases h2 : (mdW l).length = 2
    · have q1 := HW2.out.c 1 (by omega)
      rw [Nat.zero_add, HS1.out] at q1
      rw [h2]
      go_wp2_with fail
      refine (C120.out _).mono ?_
      rintro e w3 ⟨q3, rfl, hq3, hb⟩
      have HR3 := Lib.hid (HR2.out.below hb)
      have HB3 := Lib.hid (HB2.out.trans (hb.mono HB2.out.size))
      have HZ3 := Lib.hid (HZ2.out.below hb)
      obtain ⟨nb, nc, rfl, hnb, hnS, _⟩ := hq3.at_ (by omega)
      have HN3 := Lib.hid hnS
      clear hb hq3 hnS C120 HR2 HB2 HZ2 HW2 q1
      by_cases h3 : (mdN l).length = 3
      · obtain ⟨a0, ha0⟩ : ∃ p, (mdN l).getD 0 [] = p := ⟨_, rfl⟩
        obtain ⟨a1, ha1⟩ : ∃ p, (mdN l).getD 1 [] = p := ⟨_, rfl⟩
        obtain ⟨a2, ha2⟩ : ∃ p, (mdN l).getD 2 [] = p := ⟨_, rfl⟩
        have HXd : Hid (rdL a0 = mdX 0 l ∧ rdL a1 = mdX 1 l ∧ rdL a2 = mdX 2 l) := by rw [← ha0, ← ha1, ← ha2]; exact ⟨rfl, rfl, rfl⟩
        have KS : Hid (∀ u, Below w3.heap.size w3 u → u.cell? ⟨nb, 0, none⟩ = some (.string ⟨a0.toArray⟩) ∧ u.cell? ⟨nb, 1, none⟩ = some (.string ⟨a1.toArray⟩) ∧ u.cell? ⟨nb, 2, none⟩ = some (.string ⟨a2.toArray⟩)) := fun u hu => by
          have a := (HN3.out.below hu).c 0 (by omega)
          have b := (HN3.out.below hu).c 1 (by omega)
          have c := (HN3.out.below hu).c 2 (by omega)
          rw [Nat.zero_add] at a b c
          rw [ha0] at a
          rw [ha1] at b
          rw [ha2] at c
          exact ⟨a, b, c⟩
        have KD : Hid (Below w3.heap.size w3 w3.drew) := (Below.refl _ _).drew
        rw [h3]
        clear ha0 ha1 ha2
        go_wp2_with fail
        go_cut [7] from 34 to 48 (fun p wx => p = .pointer (some ⟨w3.heap.size, 0, none⟩) ∧ Six wx w3.heap.size (mdX 0 l) (mdX 1 l) (mdX 2 l) (.slice none 0 0) (.slice none 0 0) (.slice none 0 0) ∧ Below w3.heap.size w3 wx)
        case first =>
          go_region_held3 (fun u => u.cell? ⟨nb, 0, none⟩ = some (.string ⟨a0.toArray⟩) ∧ u.cell? ⟨nb, 1, none⟩ = some (.string ⟨a1.toArray⟩) ∧ u.cell? ⟨nb, 2, none⟩ = some (.string ⟨a2.toArray⟩)) (first | with_reducible exact KS.out _ KD.out | exact KS.out _ (KD.out.alloc KD.out.size _)) (first | (go_at_call 10; refine (HRd.out _ _).mono ?_; rintro e wc ⟨rfl, rfl⟩))
          all_goals
            go_wp2_with fail
            go_meet
            refine ⟨rfl, ?_, ?_⟩
            · rw [HXd.out.1, HXd.out.2.1, HXd.out.2.2]
              exact (Six.new _ _ _ _ _ _ _ _).below (Below.refl _ _).drew
            · exact ((Below.refl _ _).alloc (Nat.le_refl _) _).drew
        case rest =>
          obtain ⟨rfl, hsx, hb⟩ := hcut
          obtain ⟨w4, rfl⟩ : ∃ u, u = wc := ⟨_, rfl⟩
          have HO4 := Lib.hid hsx
          have HR4 := Lib.hid (HR3.out.below hb)
          have HB4 := Lib.hid (HB3.out.trans (hb.mono HB3.out.size))
          have HZ4 := Lib.hid (HZ3.out.below hb)
          have hL3 : w.heap.size < w3.heap.size := HR3.out.lt
          have hLlb : lb ≠ w3.heap.size := by have := HZ3.out.lt; omega
          have hnl : (mdL l).length = ((mdL l).drop 1).length + 1 := by rw [List.length_drop]; omega
          have hYL : ∀ k, ((mdL l).getD (k + 1) []) = ((mdL l).drop 1).getD k [] := fun k => by simp [List.getD_eq_getElem?_getD, Nat.add_comm]
          obtain ⟨dl, hdl⟩ : ∃ dl, (mdL l).drop 1 = dl := ⟨_, rfl⟩
          have HTT : Hid (mdT 0 l = mdP 0 dl ∧ mdT 1 l = mdP 1 dl ∧ mdT 2 l = mdP 2 dl) := by rw [← hdl]; exact ⟨rfl, rfl, rfl⟩
          have HDP : Hid (∀ k, (dl.getD k []).length ≤ 1048576) := fun k => by rw [← hdl, ← hYL]; exact HLP.out (k + 1)
          rw [hdl] at hnl
          have hd121 : dl.length ≤ 121 := by omega
          have hZd : ∀ k, k < dl.length → w4.cell? ⟨lb, 1 + k, none⟩ = some (.string ⟨(dl.getD k []).toArray⟩) := fun k hk => by
            have := HZ4.out.c (k + 1) (by omega)
            rw [hYL, hdl] at this
            rwa [Nat.zero_add, Nat.add_comm k 1] at this
          have HZD := Lib.hid hZd
          have hlt4 := HZ4.out.lt
          have hBB := hb.size
          have HMD : Hid (mdB l = true) := decide_eq_true ⟨h1, h2, h3⟩
          obtain ⟨nl, hnn⟩ : ∃ n, (mdL l).length = n := ⟨_, rfl⟩
          rw [hnn] at hnl hlc
          rw [hnn]
          have hln : nl - 1 = dl.length := by omega
          have i2 : (1 : Int) ≤ (nl : Int) := by omega
          have HNL := Lib.hid hnl
          clear hsx hb HR3 HB3 HZ3 HN3 KS KD HXd hYL hZd h1' hdl hnn
          go_upto_region 9 with fail
          go_cut [49, 50, 51] from 48 to 52 (fun a b c wx => (∃ o' c', a = .slice (some ⟨lb, o', none⟩) dl.length c' ∧ StrAt wx lb o' dl) ∧ b = .int .i64 dl.length ∧ c = .int .i64 0 ∧ Below w4.heap.size w4 wx)
          case first =>
            by_cases hc1 : lc = 1
            · subst hc1
              have hd0 : dl.length = 0 := by omega
              go_wp2_with fail
              go_meet
              exact ⟨⟨0, 0, by rw [hd0], hlt4, fun k hk => by omega⟩, by rw [hd0]; first | rfl | (rw [show nl - 1 = 0 by omega]; rfl), rfl, Below.refl _ _⟩
            · have i1 : (1 : Int) ≤ (dl.length : Int) + 1 := by omega
              have i3 : ((nl : Int) - 1).toNat = dl.length := by omega
              have i4 : (nl : Int) - 1 = (dl.length : Int) := by omega
              go_wp2_with fail
              go_meet
              exact ⟨⟨1, _, by first | rfl | rw [hln], hlt4, HZD.out⟩, by first | rfl | rw [hln] | (congr 1; omega), rfl, Below.refl _ _⟩
          case rest =>
            obtain ⟨⟨o', c', rfl, hst⟩, rfl, rfl, hb⟩ := hcut
            obtain ⟨w5, rfl⟩ : ∃ u, u = wc := ⟨_, rfl⟩
            have HZ5 := Lib.hid hst
            have hs5 := hb.size
            have C5 : Hid (CSt w w5 w.heap.size w3.heap.size w5.heap.size (mdX 0 l) (mdX 1 l) (mdX 2 l) (.slice none 0 0) (.slice none 0 0) (.slice none 0 0) (mdP 0 (dl.take 0)) (mdP 1 (dl.take 0)) (mdP 2 (dl.take 0))) := ⟨HO4.out.below hb, ⟨Row.nil _ _, Row.nil _ _, Row.nil _ _, .inl rfl, .inl rfl, .inl rfl⟩, HR4.out.below hb, HB4.out.trans (hb.mono HB4.out.size), by have := HO4.out.lt; omega, Nat.le_refl _, hL3, Nat.le_refl _⟩
            have hlb5 := HZ5.out.lt
            have hLB5 : w3.heap.size < w5.heap.size := by have := HO4.out.lt; omega
            have CMo : Hid (∀ v1 v2 v3 u, Look u v1 v2 v3 (mdT 0 l) (mdT 1 l) (mdT 2 l) → Calls Tryd.prog 11 #[.agg #[.int .i64 (mdX 0 l), .int .i64 (mdX 1 l), .int .i64 (mdX 2 l), v1, v2, v3]] u fun e w' => e = .returned (.bool (moB (mdX 0 l) (mdX 1 l) (mdX 2 l) (mdT 0 l) (mdT 1 l) (mdT 2 l))) ∧ Below u.heap.size u w') := fun v1 v2 v3 u h => by
              have t : ∀ j, (mdT j l).length ≤ 4000000 := fun j => by
                have := mdP_len j ((mdL l).drop 1)
                rw [List.length_drop] at this
                show (mdP j ((mdL l).drop 1)).length ≤ _
                omega
              exact c_moGood _ _ _ v1 v2 v3 _ _ _ u (t 0) (t 1) (t 2) h
            have CTx : Hid (moB (mdX 0 l) (mdX 1 l) (mdX 2 l) (mdT 0 l) (mdT 1 l) (mdT 2 l) = true → ∀ v1 v2 v3 u, Look u v1 v2 v3 (mdT 0 l) (mdT 1 l) (mdT 2 l) → Calls Tryd.prog 12 #[.agg #[.int .i64 (mdX 0 l), .int .i64 (mdX 1 l), .int .i64 (mdX 2 l), v1, v2, v3]] u fun e w' => e = .returned (.string (mtS (mdX 0 l) (mdX 1 l) (mdX 2 l) (mdT 0 l) (mdT 1 l) (mdT 2 l))) ∧ Below u.heap.size u w') := fun hm v1 v2 v3 u h => by
              have := c_moText _ _ _ v1 v2 v3 _ _ _ _ u (mtOk hm) h
              unfold mtS
              rw [hm, if_pos rfl]
              exact this
            have HNg : Hid (moB (mdX 0 l) (mdX 1 l) (mdX 2 l) (mdT 0 l) (mdT 1 l) (mdT 2 l) = false → mpB l = false) := fun h => by unfold mpB; rw [h]; simp
            have HNt : Hid (¬ mtS (mdX 0 l) (mdX 1 l) (mdX 2 l) (mdT 0 l) (mdT 1 l) (mdT 2 l) = s → mpB l = false) := fun h => by unfold mpB; rw [hsl, decide_eq_false h]; simp
            have HYs : Hid (moB (mdX 0 l) (mdX 1 l) (mdX 2 l) (mdT 0 l) (mdT 1 l) (mdT 2 l) = true → mtS (mdX 0 l) (mdX 1 l) (mdX 2 l) (mdT 0 l) (mdT 1 l) (mdT 2 l) = s → mpB l = true ∧ (∀ j, mpX j l = mdX j l) ∧ ∀ j, mpL j l = mdT j l) := fun h h' => by
              have : mpB l = true := by unfold mpB; rw [HMD.out, h, hsl, decide_eq_true h']; rfl
              exact ⟨this, fun j => by unfold mpX; rw [this, if_pos rfl], fun j => by unfold mpL; rw [this, if_pos rfl]⟩
            clear hst hb HO4 HR4 HB4 HZ4 HZD hlt4 hBB hlc HMD hnl hln i2
            generalize w3.heap.size = L at *
            generalize hB : w5.heap.size = B at *
            go_wp2_with fail
            go_loopw [51] (fun i wr => ∃ k : Nat, k ≤ dl.length ∧ i = .int .i64 k ∧ (∃ v1 v2 v3, CSt w wr w.heap.size L B (mdX 0 l) (mdX 1 l) (mdX 2 l) v1 v2 v3 (mdP 0 (dl.take k)) (mdP 1 (dl.take k)) (mdP 2 (dl.take k))) ∧ StrAt wr lb o' dl) (fun i _ => dl.length - (RowKit.intOf i).toNat)
            case atStart => exact ⟨0, Nat.zero_le _, rfl, ⟨_, _, _, C5.out⟩, HZ5.out⟩
            case round =>
              obtain ⟨k, hk, rfl, ⟨v1, v2, v3, hc⟩, hz⟩ := hrel
              obtain ⟨k1, l0⟩ : ∃ n, (mdP 0 (dl.take k)).length = n := ⟨_, rfl⟩
              obtain ⟨k2, l1⟩ : ∃ n, (mdP 1 (dl.take k)).length = n := ⟨_, rfl⟩
              obtain ⟨k3, l2⟩ : ∃ n, (mdP 2 (dl.take k)).length = n := ⟨_, rfl⟩
              have lb0 : k1 ≤ 121 := by have := mdP_len 0 (dl.take k); rw [List.length_take] at this; omega
              have lb1 : k2 ≤ 121 := by have := mdP_len 1 (dl.take k); rw [List.length_take] at this; omega
              have lb2 : k3 ≤ 121 := by have := mdP_len 2 (dl.take k); rw [List.length_take] at this; omega
              obtain ⟨VA1, vc1, hv1⟩ := hc.mod.t.shape
              obtain ⟨VA2, vc2, hv2⟩ := hc.mod.g.shape
              obtain ⟨VA3, vc3, hv3⟩ := hc.mod.r.shape
              rw [l0] at hv1
              rw [l1] at hv2
              rw [l2] at hv3
              subst hv1
              subst hv2
              subst hv3
              have HC := Lib.hid hc
              have HZ := Lib.hid hz
              clear hc hz C5 HZ5
              by_cases hlt : k < dl.length
              · have q0 := HZ.out.c k hlt
                have b1 : (0 : Int) ≤ (k : Int) := by omega
                have b2 : (k : Int) < (dl.length : Int) := by omega
                have HTn : Hid (∀ j, mdP j (dl.take (k + 1)) = mdP j (dl.take k) ++ (if (spb 32 [] (dl.getD k [])).length = 3 then [rdL ((spb 32 [] (dl.getD k [])).getD j [])] else [])) := fun j => mdP_next hlt
                have CSk := Lib.hid (fun w1 => CSp.out 32 (dl.getD k []) w1 (HDP.out k))
                have hx1 := (spb_len 32 (dl.getD k []) []).2
                have hx2 : (spb 32 [] (dl.getD k [])).length ≤ 1048577 := by have := (spb_len 32 (dl.getD k []) []).1; have := HDP.out k; omega
                generalize spb 32 [] (dl.getD k []) = xs at *
                generalize dl.getD k [] = t at *
                go_wp2_with fail
                refine (CSk.out _).mono ?_
                rintro e w6 ⟨q6, rfl, hq6, hb⟩
                have HC6 := Lib.hid (HC.out.below hb)
                have HZ6 := Lib.hid (HZ.out.below hb)
                obtain ⟨xb, xc, rfl, hxb, hxS, _⟩ := hq6.at_ (by omega)
                have HM6 := Lib.hid hxS
                have HOW1 : Hid (∀ e, (Value.slice VA1 k1 vc1).ownBlock = some e → e < xb) := fun e he => by have := (World.ownsRow.lt HC.out.mod.t e he).2; omega
                have HOW2 : Hid (∀ e, (Value.slice VA2 k2 vc2).ownBlock = some e → e < xb) := fun e he => by have := (World.ownsRow.lt HC.out.mod.g e he).2; omega
                have HOW3 : Hid (∀ e, (Value.slice VA3 k3 vc3).ownBlock = some e → e < xb) := fun e he => by have := (World.ownsRow.lt HC.out.mod.r e he).2; omega
                have hLxb : L ≠ xb := by have := HC.out.LB; have := HC.out.sz; omega
                clear hb hq6 hxS HC HZ q0 CSk
                by_cases hx3 : xs.length = 3
                · obtain ⟨p0, hp0⟩ : ∃ p, xs.getD 0 [] = p := ⟨_, rfl⟩
                  obtain ⟨p1, hp1⟩ : ∃ p, xs.getD 1 [] = p := ⟨_, rfl⟩
                  obtain ⟨p2, hp2⟩ : ∃ p, xs.getD 2 [] = p := ⟨_, rfl⟩
                  have HX0 := Lib.hid hp0
                  have HX1 := Lib.hid hp1
                  have HX2 := Lib.hid hp2
                  have HT0 : Hid (mdP 0 (dl.take k) ++ [rdL p0] = mdP 0 (dl.take (k + 1))) := by rw [HTn.out 0, if_pos hx3, hp0]; rfl
                  have HT1 : Hid (mdP 1 (dl.take k) ++ [rdL p1] = mdP 1 (dl.take (k + 1))) := by rw [HTn.out 1, if_pos hx3, hp1]; rfl
                  have HT2 : Hid (mdP 2 (dl.take k) ++ [rdL p2] = mdP 2 (dl.take (k + 1))) := by rw [HTn.out 2, if_pos hx3, hp2]; rfl
                  rw [hx3]
                  clear hp0 hp1 hp2 HTn
                  have KDa : Hid (Below w6.heap.size w6 w6.drew) := (Below.refl _ _).drew
                  have KAa : Hid (∀ u, Below w6.heap.size w6 u → (fun u => u.cell? ⟨L, 3, none⟩ = some (.slice VA1 k1 vc1) ∧ u.cell? ⟨xb, 0, none⟩ = some (.string ⟨p0.toArray⟩)) u) := fun u hu => ⟨(HC6.out.below hu).out.c3, by have := (HM6.out.below hu).c 0 (by omega); rw [Nat.zero_add, HX0.out] at this; exact this⟩
                  go_wp2_with fail
                  obtain ⟨Sa, hSa⟩ : ∃ S : World → Prop, S = (fun u => u.cell? ⟨L, 3, none⟩ = some (.slice VA1 k1 vc1) ∧ u.cell? ⟨xb, 0, none⟩ = some (.string ⟨p0.toArray⟩)) := ⟨_, rfl⟩
                  refine region_till Sa 9 (by kernel_rfl) (by rw [hSa]; exact KAa.out _ KDa.out) (fun hHeld => ?_)
                  refine till_take (i := 0) (v := ?va_0) rfl (by kernel_rfl) (by kernel_rfl) (by kernel_rfl) (by kernel_rfl) (fun _ _ _ h => h) (Or.inl ⟨by rfl, ?hya_0⟩) (by assumption) ?resta_0
                  case hya_0 =>
                    intro u hSw
                    rw [hSa] at hSw; obtain ⟨x0, x1⟩ := hSw
                    go_simp
                    try with_reducible rfl
                  case resta_0 =>
                    refine till_take (i := 1) (v := ?va_1) rfl (by kernel_rfl) (by kernel_rfl) (by kernel_rfl) (by kernel_rfl) (fun _ _ _ h => h) (Or.inl ⟨by rfl, ?hya_1⟩) (by assumption) ?resta_1
                    case hya_1 =>
                      intro u hSw
                      rw [hSa] at hSw; obtain ⟨x0, x1⟩ := hSw
                      go_simp
                      try with_reducible rfl
                    case resta_1 =>
                      refine till_take (i := 2) (v := ?va_2) rfl (by kernel_rfl) (by kernel_rfl) (by kernel_rfl) (by kernel_rfl) (fun _ _ _ h => h) (Or.inl ⟨by rfl, ?hya_2⟩) (by assumption) ?resta_2
                      case hya_2 =>
                        intro u hSw
                        rw [hSa] at hSw; obtain ⟨x0, x1⟩ := hSw
                        go_simp
                        try with_reducible rfl
                      case resta_2 =>
                        refine till_take (i := 3) (v := ?va_3) rfl (by kernel_rfl) (by kernel_rfl) (by kernel_rfl) (by kernel_rfl) (fun _ _ _ h => h) (Or.inl ⟨by rfl, ?hya_3⟩) (by assumption) ?resta_3
                        case hya_3 =>
                          intro u hSw
                          rw [hSa] at hSw; obtain ⟨x0, x1⟩ := hSw
                          go_simp
                          try with_reducible rfl
                        case resta_3 =>
                          refine till_take (i := 4) (v := ?va_4) rfl (by kernel_rfl) (by kernel_rfl) (by kernel_rfl) (by kernel_rfl) (fun _ _ _ h => h) (Or.inl ⟨by rfl, ?hya_4⟩) (by assumption) ?resta_4
                          case hya_4 =>
                            intro u hSw
                            rw [hSa] at hSw; obtain ⟨x0, x1⟩ := hSw
                            go_simp
                            try with_reducible rfl
                          case resta_4 =>
                            simp only [List.getElem_toArray, List.getElem_cons_zero, List.getElem_cons_succ, Act.put, List.setIfInBounds_toArray, List.set_cons_zero, List.set_cons_succ]
                            refine till_one (i := 5) rfl (by kernel_rfl) (fun K hK => ?_)
                            go_simp
                            go_at_call 10
                            refine (HRd.out p0 _).mono ?_
                            rintro e wc ⟨rfl, rfl⟩
                            show K _ _
                            refine hK.out _ _ (fun hz => by rw [hSa]; exact KAa.out _ KDa.out) (fun hH => ?_)
                            have hHeld := hH (by omega)
                            clear hK K hH
                            refine till_one (i := 6) rfl (by kernel_rfl) (fun K hK => ?_)
                            go_simp
                            refine hK.out _ _ (fun hz => by rw [hSa]; exact KAa.out _ (KDa.out.alloc KDa.out.size _)) (fun hH => ?_)
                            have hHeld := hH (by omega)
                            clear hK K hH
                            refine till_one (i := 7) rfl (by kernel_rfl) (fun K hK => ?_)
                            refine step_append_src rfl _ _ 24 (by rfl) (base := B) Tryd.underlying24 HI.out hz0 hz1 hz2 rfl (by decide) (by rfl) (World.ownsRow.alloc (HC6.out.below KDa.out).mod.t _) (by rfl) (src_one (x := rdL p0) (one_new _ _ (by first | rfl | simp) _ _)) ints_ones (by unfold maxLen; omega) (by omega) (by have := HC6.out.sz; simp; omega) ?_
                            intro vv wa o1 g1 a1
                            have hB1 : Below w6.heap.size w6 (w6.drew.alloc (.cells #[.int .i64 (rdL p0)] 3)) := KDa.out.alloc KDa.out.size _
                            have r1 := row_app (by simp [l0]) o1
                            rw [HT0.out] at r1
                            obtain ⟨VB, vd, hv1⟩ := r1.shape
                            rw [← HT0.out, List.length_append, l0, List.length_singleton] at hv1
                            subst hv1
                            rw [← HT0.out] at r1
                            obtain ⟨S1, C1⟩ := HC6.out.app1 hB1 r1 g1 (by simpa using a1)
                            rw [HT0.out] at C1
                            have HC7 := Lib.hid C1
                            have M1 := HM6.out.kept hB1 g1 (fun e => by have := HOW1.out _ e; omega)
                            have HM7 := Lib.hid (HM6.out.app (L := L) (j := 3) (v := (.slice VB (k1 + 1) vd)) hB1 g1 (fun e => by have := HOW1.out _ e; omega) (by omega))
                            have HZ7 := Lib.hid (HZ6.out.app (L := L) (j := 3) (v := (.slice VB (k1 + 1) vd)) hB1 g1 (fun e => by have := (World.ownsRow.lt HC6.out.mod.t _ e).1; omega) (fun e => hLlb e.symm))
                            have K6 : Hid ((fun u => u.cell? ⟨L, 3, none⟩ = some (.slice VA1 k1 vc1) ∧ u.cell? ⟨xb, 0, none⟩ = some (.string ⟨p0.toArray⟩)) wa) := ⟨S1.c3, by have := M1.c 0 (by omega); rw [Nat.zero_add, HX0.out] at this; exact this⟩
                            have p7 := S1.c3
                            have p8 := S1.fz
                            have p9 := S1.lt
                            clear o1 r1 g1 a1 hB1 C1 M1 S1
                            refine hK.out _ _ (fun hz => by rw [hSa]; exact K6.out) (fun hH => ?_)
                            have hHeld := hH (by omega)
                            clear hK K hH
                            refine till_take (i := 8) (v := ?va_8) rfl (by kernel_rfl) (by kernel_rfl) (by kernel_rfl) (by kernel_rfl) (fun _ _ _ h => h) (Or.inl ⟨by rfl, ?hya_8⟩) (by assumption) ?resta_8
                            case hya_8 =>
                              intro u hSw
                              rw [hSa] at hSw; obtain ⟨x0, x1⟩ := hSw
                              go_simp
                              try with_reducible rfl
                            case resta_8 =>
                              simp only [List.getElem_toArray, List.getElem_cons_zero, List.getElem_cons_succ, Act.put, List.setIfInBounds_toArray, List.set_cons_zero, List.set_cons_succ]
                              refine till_one (i := 9) rfl (by kernel_rfl) (fun K hK => ?_)
                              go_simp
                              refine hK.out _ _ (fun hz => absurd rfl hz) (fun hH => ?_)
                              clear hK K hH
                              refine till_done (by kernel_rfl) ?_ _
                              clear p7 p8 p9 K6 hHeld hSa KAa KDa
                              generalize wa.setCell ⟨L, 3, none⟩ (.slice VB (k1 + 1) vd) = w7 at *
                              have KDb : Hid (Below w7.heap.size w7 w7.drew) := (Below.refl _ _).drew
                              have KAb : Hid (∀ u, Below w7.heap.size w7 u → (fun u => u.cell? ⟨L, 4, none⟩ = some (.slice VA2 k2 vc2) ∧ u.cell? ⟨xb, 1, none⟩ = some (.string ⟨p1.toArray⟩)) u) := fun u hu => ⟨(HC7.out.below hu).out.c4, by have := (HM7.out.below hu).c 1 (by omega); rw [Nat.zero_add, HX1.out] at this; exact this⟩
                              go_wp2_with fail
                              obtain ⟨Sb, hSb⟩ : ∃ S : World → Prop, S = (fun u => u.cell? ⟨L, 4, none⟩ = some (.slice VA2 k2 vc2) ∧ u.cell? ⟨xb, 1, none⟩ = some (.string ⟨p1.toArray⟩)) := ⟨_, rfl⟩
                              refine region_till Sb 9 (by kernel_rfl) (by rw [hSb]; exact KAb.out _ KDb.out) (fun hHeld => ?_)
                              refine till_take (i := 0) (v := ?vb_0) rfl (by kernel_rfl) (by kernel_rfl) (by kernel_rfl) (by kernel_rfl) (fun _ _ _ h => h) (Or.inl ⟨by rfl, ?hyb_0⟩) (by assumption) ?restb_0
                              case hyb_0 =>
                                intro u hSw
                                rw [hSb] at hSw; obtain ⟨x0, x1⟩ := hSw
                                go_simp
                                try with_reducible rfl
                              case restb_0 =>
                                refine till_take (i := 1) (v := ?vb_1) rfl (by kernel_rfl) (by kernel_rfl) (by kernel_rfl) (by kernel_rfl) (fun _ _ _ h => h) (Or.inl ⟨by rfl, ?hyb_1⟩) (by assumption) ?restb_1
                                case hyb_1 =>
                                  intro u hSw
                                  rw [hSb] at hSw; obtain ⟨x0, x1⟩ := hSw
                                  go_simp
                                  try with_reducible rfl
                                case restb_1 =>
                                  refine till_take (i := 2) (v := ?vb_2) rfl (by kernel_rfl) (by kernel_rfl) (by kernel_rfl) (by kernel_rfl) (fun _ _ _ h => h) (Or.inl ⟨by rfl, ?hyb_2⟩) (by assumption) ?restb_2
                                  case hyb_2 =>
                                    intro u hSw
                                    rw [hSb] at hSw; obtain ⟨x0, x1⟩ := hSw
                                    go_simp
                                    try with_reducible rfl
                                  case restb_2 =>
                                    refine till_take (i := 3) (v := ?vb_3) rfl (by kernel_rfl) (by kernel_rfl) (by kernel_rfl) (by kernel_rfl) (fun _ _ _ h => h) (Or.inl ⟨by rfl, ?hyb_3⟩) (by assumption) ?restb_3
                                    case hyb_3 =>
                                      intro u hSw
                                      rw [hSb] at hSw; obtain ⟨x0, x1⟩ := hSw
                                      go_simp
                                      try with_reducible rfl
                                    case restb_3 =>
                                      refine till_take (i := 4) (v := ?vb_4) rfl (by kernel_rfl) (by kernel_rfl) (by kernel_rfl) (by kernel_rfl) (fun _ _ _ h => h) (Or.inl ⟨by rfl, ?hyb_4⟩) (by assumption) ?restb_4
                                      case hyb_4 =>
                                        intro u hSw
                                        rw [hSb] at hSw; obtain ⟨x0, x1⟩ := hSw
                                        go_simp
                                        try with_reducible rfl
                                      case restb_4 =>
                                        simp only [List.getElem_toArray, List.getElem_cons_zero, List.getElem_cons_succ, Act.put, List.setIfInBounds_toArray, List.set_cons_zero, List.set_cons_succ]
                                        refine till_one (i := 5) rfl (by kernel_rfl) (fun K hK => ?_)
                                        go_simp
                                        go_at_call 10
                                        refine (HRd.out p1 _).mono ?_
                                        rintro e wc ⟨rfl, rfl⟩
                                        show K _ _
                                        refine hK.out _ _ (fun hz => by rw [hSb]; exact KAb.out _ KDb.out) (fun hH => ?_)
                                        have hHeld := hH (by omega)
                                        clear hK K hH
                                        refine till_one (i := 6) rfl (by kernel_rfl) (fun K hK => ?_)
                                        go_simp
                                        refine hK.out _ _ (fun hz => by rw [hSb]; exact KAb.out _ (KDb.out.alloc KDb.out.size _)) (fun hH => ?_)
                                        have hHeld := hH (by omega)
                                        clear hK K hH
                                        refine till_one (i := 7) rfl (by kernel_rfl) (fun K hK => ?_)
                                        refine step_append_src rfl _ _ 24 (by rfl) (base := B) Tryd.underlying24 HI.out hz0 hz1 hz2 rfl (by decide) (by rfl) (World.ownsRow.alloc (HC7.out.below KDb.out).mod.g _) (by rfl) (src_one (x := rdL p1) (one_new _ _ (by first | rfl | simp) _ _)) ints_ones (by unfold maxLen; omega) (by omega) (by have := HC7.out.sz; simp; omega) ?_
                                        intro vv wb o1 g1 a1
                                        have hB1 : Below w7.heap.size w7 (w7.drew.alloc (.cells #[.int .i64 (rdL p1)] 3)) := KDb.out.alloc KDb.out.size _
                                        have r1 := row_app (by simp [l1]) o1
                                        rw [HT1.out] at r1
                                        obtain ⟨VB, vd, hv1⟩ := r1.shape
                                        rw [← HT1.out, List.length_append, l1, List.length_singleton] at hv1
                                        subst hv1
                                        rw [← HT1.out] at r1
                                        obtain ⟨S1, C1⟩ := HC7.out.app2 hB1 r1 g1 (by simpa using a1)
                                        rw [HT1.out] at C1
                                        have HC8 := Lib.hid C1
                                        have M1 := HM7.out.kept hB1 g1 (fun e => by have := HOW2.out _ e; omega)
                                        have HM8 := Lib.hid (HM7.out.app (L := L) (j := 4) (v := (.slice VB (k2 + 1) vd)) hB1 g1 (fun e => by have := HOW2.out _ e; omega) (by omega))
                                        have HZ8 := Lib.hid (HZ7.out.app (L := L) (j := 4) (v := (.slice VB (k2 + 1) vd)) hB1 g1 (fun e => by have := (World.ownsRow.lt HC7.out.mod.g _ e).1; omega) (fun e => hLlb e.symm))
                                        have K6 : Hid ((fun u => u.cell? ⟨L, 4, none⟩ = some (.slice VA2 k2 vc2) ∧ u.cell? ⟨xb, 1, none⟩ = some (.string ⟨p1.toArray⟩)) wb) := ⟨S1.c4, by have := M1.c 1 (by omega); rw [Nat.zero_add, HX1.out] at this; exact this⟩
                                        have p7 := S1.c4
                                        have p8 := S1.fz
                                        have p9 := S1.lt
                                        clear o1 r1 g1 a1 hB1 C1 M1 S1
                                        refine hK.out _ _ (fun hz => by rw [hSb]; exact K6.out) (fun hH => ?_)
                                        have hHeld := hH (by omega)
                                        clear hK K hH
                                        refine till_take (i := 8) (v := ?vb_8) rfl (by kernel_rfl) (by kernel_rfl) (by kernel_rfl) (by kernel_rfl) (fun _ _ _ h => h) (Or.inl ⟨by rfl, ?hyb_8⟩) (by assumption) ?restb_8
                                        case hyb_8 =>
                                          intro u hSw
                                          rw [hSb] at hSw; obtain ⟨x0, x1⟩ := hSw
                                          go_simp
                                          try with_reducible rfl
                                        case restb_8 =>
                                          simp only [List.getElem_toArray, List.getElem_cons_zero, List.getElem_cons_succ, Act.put, List.setIfInBounds_toArray, List.set_cons_zero, List.set_cons_succ]
                                          refine till_one (i := 9) rfl (by kernel_rfl) (fun K hK => ?_)
                                          go_simp
                                          refine hK.out _ _ (fun hz => absurd rfl hz) (fun hH => ?_)
                                          clear hK K hH
                                          refine till_done (by kernel_rfl) ?_ _
                                          clear p7 p8 p9 K6 hHeld hSb KAb KDb
                                          generalize wb.setCell ⟨L, 4, none⟩ (.slice VB (k2 + 1) vd) = w8 at *
                                          have KDc : Hid (Below w8.heap.size w8 w8.drew) := (Below.refl _ _).drew
                                          have KAc : Hid (∀ u, Below w8.heap.size w8 u → (fun u => u.cell? ⟨L, 5, none⟩ = some (.slice VA3 k3 vc3) ∧ u.cell? ⟨xb, 2, none⟩ = some (.string ⟨p2.toArray⟩)) u) := fun u hu => ⟨(HC8.out.below hu).out.c5, by have := (HM8.out.below hu).c 2 (by omega); rw [Nat.zero_add, HX2.out] at this; exact this⟩
                                          go_wp2_with fail
                                          obtain ⟨Sc, hSc⟩ : ∃ S : World → Prop, S = (fun u => u.cell? ⟨L, 5, none⟩ = some (.slice VA3 k3 vc3) ∧ u.cell? ⟨xb, 2, none⟩ = some (.string ⟨p2.toArray⟩)) := ⟨_, rfl⟩
                                          refine region_till Sc 9 (by kernel_rfl) (by rw [hSc]; exact KAc.out _ KDc.out) (fun hHeld => ?_)
                                          refine till_take (i := 0) (v := ?vc_0) rfl (by kernel_rfl) (by kernel_rfl) (by kernel_rfl) (by kernel_rfl) (fun _ _ _ h => h) (Or.inl ⟨by rfl, ?hyc_0⟩) (by assumption) ?restc_0
                                          case hyc_0 =>
                                            intro u hSw
                                            rw [hSc] at hSw; obtain ⟨x0, x1⟩ := hSw
                                            go_simp
                                            try with_reducible rfl
                                          case restc_0 =>
                                            refine till_take (i := 1) (v := ?vc_1) rfl (by kernel_rfl) (by kernel_rfl) (by kernel_rfl) (by kernel_rfl) (fun _ _ _ h => h) (Or.inl ⟨by rfl, ?hyc_1⟩) (by assumption) ?restc_1
                                            case hyc_1 =>
                                              intro u hSw
                                              rw [hSc] at hSw; obtain ⟨x0, x1⟩ := hSw
                                              go_simp
                                              try with_reducible rfl
                                            case restc_1 =>
                                              refine till_take (i := 2) (v := ?vc_2) rfl (by kernel_rfl) (by kernel_rfl) (by kernel_rfl) (by kernel_rfl) (fun _ _ _ h => h) (Or.inl ⟨by rfl, ?hyc_2⟩) (by assumption) ?restc_2
                                              case hyc_2 =>
                                                intro u hSw
                                                rw [hSc] at hSw; obtain ⟨x0, x1⟩ := hSw
                                                go_simp
                                                try with_reducible rfl
                                              case restc_2 =>
                                                refine till_take (i := 3) (v := ?vc_3) rfl (by kernel_rfl) (by kernel_rfl) (by kernel_rfl) (by kernel_rfl) (fun _ _ _ h => h) (Or.inl ⟨by rfl, ?hyc_3⟩) (by assumption) ?restc_3
                                                case hyc_3 =>
                                                  intro u hSw
                                                  rw [hSc] at hSw; obtain ⟨x0, x1⟩ := hSw
                                                  go_simp
                                                  try with_reducible rfl
                                                case restc_3 =>
                                                  refine till_take (i := 4) (v := ?vc_4) rfl (by kernel_rfl) (by kernel_rfl) (by kernel_rfl) (by kernel_rfl) (fun _ _ _ h => h) (Or.inl ⟨by rfl, ?hyc_4⟩) (by assumption) ?restc_4
                                                  case hyc_4 =>
                                                    intro u hSw
                                                    rw [hSc] at hSw; obtain ⟨x0, x1⟩ := hSw
                                                    go_simp
                                                    try with_reducible rfl
                                                  case restc_4 =>
                                                    simp only [List.getElem_toArray, List.getElem_cons_zero, List.getElem_cons_succ, Act.put, List.setIfInBounds_toArray, List.set_cons_zero, List.set_cons_succ]
                                                    refine till_one (i := 5) rfl (by kernel_rfl) (fun K hK => ?_)
                                                    go_simp
                                                    go_at_call 10
                                                    refine (HRd.out p2 _).mono ?_
                                                    rintro e wc ⟨rfl, rfl⟩
                                                    show K _ _
                                                    refine hK.out _ _ (fun hz => by rw [hSc]; exact KAc.out _ KDc.out) (fun hH => ?_)
                                                    have hHeld := hH (by omega)
                                                    clear hK K hH
                                                    refine till_one (i := 6) rfl (by kernel_rfl) (fun K hK => ?_)
                                                    go_simp
                                                    refine hK.out _ _ (fun hz => by rw [hSc]; exact KAc.out _ (KDc.out.alloc KDc.out.size _)) (fun hH => ?_)
                                                    have hHeld := hH (by omega)
                                                    clear hK K hH
                                                    refine till_one (i := 7) rfl (by kernel_rfl) (fun K hK => ?_)
                                                    refine step_append_src rfl _ _ 24 (by rfl) (base := B) Tryd.underlying24 HI.out hz0 hz1 hz2 rfl (by decide) (by rfl) (World.ownsRow.alloc (HC8.out.below KDc.out).mod.r _) (by rfl) (src_one (x := rdL p2) (one_new _ _ (by first | rfl | simp) _ _)) ints_ones (by unfold maxLen; omega) (by omega) (by have := HC8.out.sz; simp; omega) ?_
                                                    intro vv wc o1 g1 a1
                                                    have hB1 : Below w8.heap.size w8 (w8.drew.alloc (.cells #[.int .i64 (rdL p2)] 3)) := KDc.out.alloc KDc.out.size _
                                                    have r1 := row_app (by simp [l2]) o1
                                                    rw [HT2.out] at r1
                                                    obtain ⟨VB, vd, hv1⟩ := r1.shape
                                                    rw [← HT2.out, List.length_append, l2, List.length_singleton] at hv1
                                                    subst hv1
                                                    rw [← HT2.out] at r1
                                                    obtain ⟨S1, C1⟩ := HC8.out.app3 hB1 r1 g1 (by simpa using a1)
                                                    rw [HT2.out] at C1
                                                    have HC9 := Lib.hid C1
                                                    have M1 := HM8.out.kept hB1 g1 (fun e => by have := HOW3.out _ e; omega)
                                                    have HM9 := Lib.hid (HM8.out.app (L := L) (j := 5) (v := (.slice VB (k3 + 1) vd)) hB1 g1 (fun e => by have := HOW3.out _ e; omega) (by omega))
                                                    have HZ9 := Lib.hid (HZ8.out.app (L := L) (j := 5) (v := (.slice VB (k3 + 1) vd)) hB1 g1 (fun e => by have := (World.ownsRow.lt HC8.out.mod.r _ e).1; omega) (fun e => hLlb e.symm))
                                                    have K6 : Hid ((fun u => u.cell? ⟨L, 5, none⟩ = some (.slice VA3 k3 vc3) ∧ u.cell? ⟨xb, 2, none⟩ = some (.string ⟨p2.toArray⟩)) wc) := ⟨S1.c5, by have := M1.c 2 (by omega); rw [Nat.zero_add, HX2.out] at this; exact this⟩
                                                    have p7 := S1.c5
                                                    have p8 := S1.fz
                                                    have p9 := S1.lt
                                                    clear o1 r1 g1 a1 hB1 C1 M1 S1
                                                    refine hK.out _ _ (fun hz => by rw [hSc]; exact K6.out) (fun hH => ?_)
                                                    have hHeld := hH (by omega)
                                                    clear hK K hH
                                                    refine till_take (i := 8) (v := ?vc_8) rfl (by kernel_rfl) (by kernel_rfl) (by kernel_rfl) (by kernel_rfl) (fun _ _ _ h => h) (Or.inl ⟨by rfl, ?hyc_8⟩) (by assumption) ?restc_8
                                                    case hyc_8 =>
                                                      intro u hSw
                                                      rw [hSc] at hSw; obtain ⟨x0, x1⟩ := hSw
                                                      go_simp
                                                      try with_reducible rfl
                                                    case restc_8 =>
                                                      simp only [List.getElem_toArray, List.getElem_cons_zero, List.getElem_cons_succ, Act.put, List.setIfInBounds_toArray, List.set_cons_zero, List.set_cons_succ]
                                                      refine till_one (i := 9) rfl (by kernel_rfl) (fun K hK => ?_)
                                                      go_simp
                                                      refine hK.out _ _ (fun hz => absurd rfl hz) (fun hH => ?_)
                                                      clear hK K hH
                                                      refine till_done (by kernel_rfl) ?_ _
                                                      clear p7 p8 p9 K6 hHeld hSc KAc KDc
                                                      generalize wc.setCell ⟨L, 5, none⟩ (.slice VB (k3 + 1) vd) = w9 at *
                                                      go_wp2
                                                      go_roundw
                                                      case rel => exact ⟨k + 1, by omega, by go_num, ⟨_, _, _, HC9.out⟩, HZ9.out⟩
                                                      case measure => simp [RowKit.intOf]; omega
                · have hx3' : ¬ (xs.length : Int) = 3 := by omega
                  have HT0 : Hid (mdP 0 (dl.take (k + 1)) = mdP 0 (dl.take k) ∧ mdP 1 (dl.take (k + 1)) = mdP 1 (dl.take k) ∧ mdP 2 (dl.take (k + 1)) = mdP 2 (dl.take k)) := by rw [HTn.out 0, HTn.out 1, HTn.out 2, if_neg hx3, if_neg hx3, if_neg hx3]; simp [Hid]
                  go_wp2
                  go_roundw
                  case rel => exact ⟨k + 1, by omega, by go_num, ⟨_, _, _, by rw [HT0.out.1, HT0.out.2.1, HT0.out.2.2]; exact HC6.out⟩, HZ6.out⟩
                  case measure => simp [RowKit.intOf]; omega
              · obtain rfl : k = dl.length := by omega
                have nlt : ¬ (dl.length : Int) < (dl.length : Int) := by omega
                have HCe : Hid (CSt w wr w.heap.size L B (mdX 0 l) (mdX 1 l) (mdX 2 l) (.slice VA1 k1 vc1) (.slice VA2 k2 vc2) (.slice VA3 k3 vc3) (mdT 0 l) (mdT 1 l) (mdT 2 l)) := by
                  have := HC.out
                  rw [List.take_length, ← HTT.out.1, ← HTT.out.2.1, ← HTT.out.2.2] at this
                  exact this
                have HLk := Lib.hid HCe.out.mod.look
                have o0 := HCe.out.out.c0
                have o1 := HCe.out.out.c1
                have o2 := HCe.out.out.c2
                have o3 := HCe.out.out.c3
                have o4 := HCe.out.out.c4
                have o5 := HCe.out.out.c5
                clear HC l0 l1 l2
                go_wp2_with fail
                refine (CMo.out _ _ _ _ HLk.out).mono ?_
                rintro e w7 ⟨rfl, hb⟩
                have HC7 := Lib.hid (HCe.out.below hb)
                clear hb o0 o1 o2 o3 o4 o5 HCe HLk
                cases hmo : moB (mdX 0 l) (mdX 1 l) (mdX 2 l) (mdT 0 l) (mdT 1 l) (mdT 2 l)
                · have hf := HNg.out hmo
                  obtain ⟨n1, n2, n3, n4, n5, n6⟩ := NO.out hf
                  have HR7 := Lib.hid HC7.out.res
                  have HB7 := Lib.hid HC7.out.bel
                  have HF := Lib.hid (fin_none (r := w.heap.size) (Nat.le_refl _) HR7.out HB7.out)
                  have y0 := HR7.out.c0
                  have y1 := HR7.out.c1
                  have y2 := HR7.out.c2
                  have y3 := HR7.out.c3
                  have y4 := HR7.out.c4
                  have y5 := HR7.out.c5
                  have y6 := HR7.out.fz
                  have y7 := HR7.out.lt
                  go_wp2
                  unfold putM at HF
                  generalize ((((((w7.setCell ⟨w.heap.size, 0, none⟩ (.int .i64 0)).setCell ⟨w.heap.size, 1, none⟩ (.int .i64 0)).setCell ⟨w.heap.size, 2, none⟩ (.int .i64 0)).setCell ⟨w.heap.size, 3, none⟩ (.slice none 0 0)).setCell ⟨w.heap.size, 4, none⟩ (.slice none 0 0)).setCell ⟨w.heap.size, 5, none⟩ (.slice none 0 0)) = we at *
                  obtain ⟨P1, P2, P3⟩ := HF.out
                  have f0 := P1.c0
                  have f1 := P1.c1
                  have f2 := P1.c2
                  have f3 := P1.c3
                  have f4 := P1.c4
                  have f5 := P1.c5
                  refine bodyPost_ret (v := .tuple #[.agg #[.int .i64 0, .int .i64 0, .int .i64 0, .slice none 0 0, .slice none 0 0, .slice none 0 0], .bool false]) (by simp [results, Tryd.results4, go_sem, f0, f1, f2, f3, f4, f5]) rfl (by rw [n1, n2, n3, n4, n5, n6, hf]; exact ⟨_, _, _, rfl, P2, P3⟩)
                · have HLk := Lib.hid HC7.out.mod.look
                  have CT7 := Lib.hid (CTx.out hmo _ _ _ w7 HLk.out)
                  have o0 := HC7.out.out.c0
                  have o1 := HC7.out.out.c1
                  have o2 := HC7.out.out.c2
                  have o3 := HC7.out.out.c3
                  have o4 := HC7.out.out.c4
                  have o5 := HC7.out.out.c5
                  go_wp2_with fail
                  refine CT7.out.mono ?_
                  rintro e w8 ⟨rfl, hb⟩
                  have HC8 := Lib.hid (HC7.out.below hb)
                  clear hb o0 o1 o2 o3 o4 o5 HC7 HLk CT7
                  by_cases hts : mtS (mdX 0 l) (mdX 1 l) (mdX 2 l) (mdT 0 l) (mdT 1 l) (mdT 2 l) = s
                  · obtain ⟨hyes, hXX, hLL⟩ := HYs.out hmo hts
                    have HF := Lib.hid HC8.out.fin
                    rw [hts]
                    have hse := (ba_self s).1
                    have hsn := (ba_self s).2
                    have o0 := HC8.out.out.c0
                    have o1 := HC8.out.out.c1
                    have o2 := HC8.out.out.c2
                    have o3 := HC8.out.out.c3
                    have o4 := HC8.out.out.c4
                    have o5 := HC8.out.out.c5
                    have o6 := HC8.out.out.lt
                    have y0 := HC8.out.res.c0
                    have y1 := HC8.out.res.c1
                    have y2 := HC8.out.res.c2
                    have y3 := HC8.out.res.c3
                    have y4 := HC8.out.res.c4
                    have y5 := HC8.out.res.c5
                    have y6 := HC8.out.res.fz
                    have y7 := HC8.out.res.lt
                    go_wp2
                    unfold putM at HF
                    generalize ((((((w8.setCell ⟨w.heap.size, 0, none⟩ (.int .i64 (mdX 0 l))).setCell ⟨w.heap.size, 1, none⟩ (.int .i64 (mdX 1 l))).setCell ⟨w.heap.size, 2, none⟩ (.int .i64 (mdX 2 l))).setCell ⟨w.heap.size, 3, none⟩ (.slice VA1 k1 vc1)).setCell ⟨w.heap.size, 4, none⟩ (.slice VA2 k2 vc2)).setCell ⟨w.heap.size, 5, none⟩ (.slice VA3 k3 vc3)) = we at *
                    obtain ⟨P1, P2, P3⟩ := HF.out
                    have f0 := P1.c0
                    have f1 := P1.c1
                    have f2 := P1.c2
                    have f3 := P1.c3
                    have f4 := P1.c4
                    have f5 := P1.c5
                    refine bodyPost_ret (v := .tuple #[.agg #[.int .i64 (mdX 0 l), .int .i64 (mdX 1 l), .int .i64 (mdX 2 l), .slice VA1 k1 vc1, .slice VA2 k2 vc2, .slice VA3 k3 vc3], .bool true]) (by simp [results, Tryd.results4, go_sem, f0, f1, f2, f3, f4, f5]) rfl (by rw [hXX 0, hXX 1, hXX 2, hLL 0, hLL 1, hLL 2, hyes]; exact ⟨_, _, _, rfl, P2, P3⟩)
                  · have hf := HNt.out hts
                    have htb : (mtS (mdX 0 l) (mdX 1 l) (mdX 2 l) (mdT 0 l) (mdT 1 l) (mdT 2 l) != s) = true := (ba_ne hts).2
                    have hte := ba_list hts
                    have htc : (mtS (mdX 0 l) (mdX 1 l) (mdX 2 l) (mdT 0 l) (mdT 1 l) (mdT 2 l) == s) = false := (ba_ne hts).1
                    obtain ⟨n1, n2, n3, n4, n5, n6⟩ := NO.out hf
                    have HR8 := Lib.hid HC8.out.res
                    have HB8 := Lib.hid HC8.out.bel
                    have HF := Lib.hid (fin_none (r := w.heap.size) (Nat.le_refl _) HR8.out HB8.out)
                    have y0 := HR8.out.c0
                    have y1 := HR8.out.c1
                    have y2 := HR8.out.c2
                    have y3 := HR8.out.c3
                    have y4 := HR8.out.c4
                    have y5 := HR8.out.c5
                    have y6 := HR8.out.fz
                    have y7 := HR8.out.lt
                    go_wp2
                    unfold putM at HF
                    generalize ((((((w8.setCell ⟨w.heap.size, 0, none⟩ (.int .i64 0)).setCell ⟨w.heap.size, 1, none⟩ (.int .i64 0)).setCell ⟨w.heap.size, 2, none⟩ (.int .i64 0)).setCell ⟨w.heap.size, 3, none⟩ (.slice none 0 0)).setCell ⟨w.heap.size, 4, none⟩ (.slice none 0 0)).setCell ⟨w.heap.size, 5, none⟩ (.slice none 0 0)) = we at *
                    obtain ⟨P1, P2, P3⟩ := HF.out
                    have f0 := P1.c0
                    have f1 := P1.c1
                    have f2 := P1.c2
                    have f3 := P1.c3
                    have f4 := P1.c4
                    have f5 := P1.c5
                    refine bodyPost_ret (v := .tuple #[.agg #[.int .i64 0, .int .i64 0, .int .i64 0, .slice none 0 0, .slice none 0 0, .slice none 0 0], .bool false]) (by simp [results, Tryd.results4, go_sem, f0, f1, f2, f3, f4, f5]) rfl (by rw [n1, n2, n3, n4, n5, n6, hf]; exact ⟨_, _, _, rfl, P2, P3⟩)
      · have hf := HN1.out (fun h => h3 h.2.2)
        have h3' : ¬ ((mdN l).length : Int) = 3 := by omega
        obtain ⟨n1, n2, n3, n4, n5, n6⟩ := NO.out hf
        have HF := Lib.hid (fin_none (r := w.heap.size) (Nat.le_refl _) HR3.out HB3.out)
        have y0 := HR3.out.c0
        have y1 := HR3.out.c1
        have y2 := HR3.out.c2
        have y3 := HR3.out.c3
        have y4 := HR3.out.c4
        have y5 := HR3.out.c5
        have y6 := HR3.out.fz
        have y7 := HR3.out.lt
        go_wp2
        unfold putM at HF
        generalize ((((((w3.setCell ⟨w.heap.size, 0, none⟩ (.int .i64 0)).setCell ⟨w.heap.size, 1, none⟩ (.int .i64 0)).setCell ⟨w.heap.size, 2, none⟩ (.int .i64 0)).setCell ⟨w.heap.size, 3, none⟩ (.slice none 0 0)).setCell ⟨w.heap.size, 4, none⟩ (.slice none 0 0)).setCell ⟨w.heap.size, 5, none⟩ (.slice none 0 0)) = we at *
        obtain ⟨P1, P2, P3⟩ := HF.out
        have f0 := P1.c0
        have f1 := P1.c1
        have f2 := P1.c2
        have f3 := P1.c3
        have f4 := P1.c4
        have f5 := P1.c5
        refine bodyPost_ret (v := .tuple #[.agg #[.int .i64 0, .int .i64 0, .int .i64 0, .slice none 0 0, .slice none 0 0, .slice none 0 0], .bool false]) (by simp [results, Tryd.results4, go_sem, f0, f1, f2, f3, f4, f5]) rfl (by rw [n1, n2, n3, n4, n5, n6, hf]; exact ⟨_, _, _, rfl, P2, P3⟩)
    · have hf := HN1.out (fun h => h2 h.2.1)
      have h2' : ¬ ((mdW l).length : Int) = 2 := by omega
      have h2b : (((mdW l).length : Int) != 2) = true := by simpa using h2'
      have h1b : decide ((122 : Int) < ((mdL l).length : Int)) = false := decide_eq_false (by omega)
      obtain ⟨n1, n2, n3, n4, n5, n6⟩ := NO.out hf
      have HF := Lib.hid (fin_none (r := w.heap.size) (Nat.le_refl _) HR2.out HB2.out)
      have y0 := HR2.out.c0
      have y1 := HR2.out.c1
      have y2 := HR2.out.c2
      have y3 := HR2.out.c3
      have y4 := HR2.out.c4
      have y5 := HR2.out.c5
      have y6 := HR2.out.fz
      have y7 := HR2.out.lt
      go_wp2
      unfold putM at HF
      generalize ((((((w2.setCell ⟨w.heap.size, 0, none⟩ (.int .i64 0)).setCell ⟨w.heap.size, 1, none⟩ (.int .i64 0)).setCell ⟨w.heap.size, 2, none⟩ (.int .i64 0)).setCell ⟨w.heap.size, 3, none⟩ (.slice none 0 0)).setCell ⟨w.heap.size, 4, none⟩ (.slice none 0 0)).setCell ⟨w.heap.size, 5, none⟩ (.slice none 0 0)) = we at *
      obtain ⟨P1, P2, P3⟩ := HF.out
      have f0 := P1.c0
      have f1 := P1.c1
      have f2 := P1.c2
      have f3 := P1.c3
      have f4 := P1.c4
      have f5 := P1.c5
      refine bodyPost_ret (v := .tuple #[.agg #[.int .i64 0, .int .i64 0, .int .i64 0, .slice none 0 0, .slice none 0 0, .slice none 0 0], .bool false]) (by simp [results, Tryd.results4, go_sem, f0, f1, f2, f3, f4, f5]) rfl (by rw [n1, n2, n3, n4, n5, n6, hf]; exact ⟨_, _, _, rfl, P2, P3⟩)
  · have hf := HN1.out (fun h => h1 h.1)
    have h1' : ((mdL l).length : Int) > 122 := by omega
    obtain ⟨n1, n2, n3, n4, n5, n6⟩ := NO.out hf
    have HF := Lib.hid (fin_none (r := w.heap.size) (Nat.le_refl _) HR2.out HB2.out)
    have y0 := HR2.out.c0
    have y1 := HR2.out.c1
    have y2 := HR2.out.c2
    have y3 := HR2.out.c3
    have y4 := HR2.out.c4
    have y5 := HR2.out.c5
    have y6 := HR2.out.fz
    have y7 := HR2.out.lt
    go_wp2
    unfold putM at HF
    generalize ((((((w2.setCell ⟨w.heap.size, 0, none⟩ (.int .i64 0)).setCell ⟨w.heap.size, 1, none⟩ (.int .i64 0)).setCell ⟨w.heap.size, 2, none⟩ (.int .i64 0)).setCell ⟨w.heap.size, 3, none⟩ (.slice none 0 0)).setCell ⟨w.heap.size, 4, none⟩ (.slice none 0 0)).setCell ⟨w.heap.size, 5, none⟩ (.slice none 0 0)) = we at *
    obtain ⟨P1, P2, P3⟩ := HF.out
    have f0 := P1.c0
    have f1 := P1.c1
    have f2 := P1.c2
    have f3 := P1.c3
    have f4 := P1.c4
    have f5 := P1.c5
    refine bodyPost_ret (v := .tuple #[.agg #[.int .i64 0, .int .i64 0, .int .i64 0, .slice none 0 0, .slice none 0 0, .slice none 0 0], .bool false]) (by simp [results, Tryd.results4, go_sem, f0, f1, f2, f3, f4, f5]) rfl (by rw [n1, n2, n3, n4, n5, n6, hf]; exact ⟨_, _, _, rfl, P2, P3⟩)
end Go.Proofs.YtgibkjjjnfjbkaaDoor
