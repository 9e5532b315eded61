/-
Contracts: sums of phases and joined phases, in the program.
Contracts: joined phases, in the program.
Contracts: sums of phases, in the model of it.
A model marked: block by block; in this seat.
-/
import Derived.Test.YtlgbhemjckahhaaTP2
import Derived.Test.YtlgbhemjckahhaaM12
import Derived.Test.YtlgbhemjckahhaaM7
import Derived.Test.YtlgbhemjckahhaaM11
import Derived.Test.YtlgbhemjckahhaaM3
namespace Go.Proofs.Ytlgbhemjckahhaa
open Go.RowKit
set_option linter.unusedVariables false

theorem row_pair (w : World) (a b : Int) : Row (w.alloc (.cells #[.int .i64 a, .int .i64 b] 3)) w.heap.size (.slice (some ⟨w.heap.size, 0, none⟩) 2 2) [a, b] :=
  World.ownsRow_lit (base := w.heap.size) (e := 3) (size := 1) w #[.int .i64 a, .int .i64 b] 2 (Nat.le_refl _) (by unfold maxLen; omega) rfl
def mdB (x y z : Int) (ts gs rs : List Int) (xss : List (List Int)) : Bool := moB x y z ts gs rs && decide ((xss.length : Int) = (ts.length : Int))
theorem md_true {x y z : Int} {ts gs rs : List Int} {xss : List (List Int)} (h : mdB x y z ts gs rs xss = true) : moB x y z ts gs rs = true ∧ (xss.length : Int) = x * y * z := by
  unfold mdB at h
  rw [Bool.and_eq_true, decide_eq_true_eq] at h
  have := (mo_true h.1).2.1
  exact ⟨h.1, by omega⟩
theorem md_list {x y z : Int} {ts gs rs bs : List Int} {xss : List (List Int)} (h : mdB x y z ts gs rs xss = true) (hr : risB xss.length bs = true) : listB x y z ts gs rs bs = true := by
  obtain ⟨h1, h2⟩ := md_true h
  unfold listB
  rw [h1, Bool.true_and, ← h2]
  exact hr

set_option maxHeartbeats 2000000 in
theorem c_isModelOf (x y z : Int) (v1 v2 v3 : Value) (ts gs rs : List Int) (xss : List (List Int)) (v : Value) (w : World) (l1 : ts.length ≤ 4000000) (l2 : gs.length ≤ 4000000) (l3 : rs.length ≤ 4000000) (hs : ShortL xss) (hm : Look w v1 v2 v3 ts gs rs) (h : SeenL w v xss) :
    Calls Try.prog 68 #[.agg #[.int .i64 x, .int .i64 y, .int .i64 z, v1, v2, v3], v] w fun e w' => e = .returned (.bool (mdB x y z ts gs rs xss)) ∧ Below w.heap.size w w' := by
  have HB0 : Hid (Below w.heap.size w (w.alloc (.cells #[.int .i64 x, .int .i64 y, .int .i64 z, v1, v2, v3] 52))) := (Below.refl _ _).alloc (Nat.le_refl _) _
  have HX0 : Hid (Box6 (w.alloc (.cells #[.int .i64 x, .int .i64 y, .int .i64 z, v1, v2, v3] 52)) w.heap.size x y z v1 v2 v3) := Box6.new w x y z v1 v2 v3 _
  have C := Lib.hid (c_IsModel x y z v1 v2 v3 ts gs rs (w.alloc (.cells #[.int .i64 x, .int .i64 y, .int .i64 z, v1, v2, v3] 52)) l1 l2 l3 (hm.below HB0.out))
  obtain ⟨A1, c1, rfl⟩ := hm.t.shape
  obtain ⟨A2, c2, rfl⟩ := hm.g.shape
  obtain ⟨A3, c3, rfl⟩ := hm.r.shape
  obtain ⟨A, c, rfl, _⟩ := h.shape
  have hls := hs.1
  unfold mdB
  clear hm h hs
  cases hmo : moB x y z ts gs rs
  · rw [hmo] at C
    rw [Bool.false_and]
    go_enter Try.func68, Try.ntmps68
    go_wp2_with fail
    refine C.out.mono ?_
    rintro e w1 ⟨rfl, hb⟩
    have HB1 := Lib.hid (HB0.out.trans (hb.mono HB0.out.size))
    clear hb
    go_wp2
    go_ret
    exact ⟨rfl, HB1.out⟩
  · rw [hmo] at C
    rw [Bool.true_and]
    go_enter Try.func68, Try.ntmps68
    go_wp2_with fail
    refine C.out.mono ?_
    rintro e w1 ⟨rfl, hb⟩
    have HB1 := Lib.hid (HB0.out.trans (hb.mono HB0.out.size))
    have HX1 := HX0.out.below hb
    have x3 := HX1.c3
    clear hb HX1
    go_wp2
    go_ret
    exact ⟨by first | rfl | simp, HB1.out⟩

def psB (x y z : Int) (ts gs rs : List Int) (xss pss : List (List Int)) : Bool := mdB x y z ts gs rs xss && pitsB xss pss
def psA (x y z : Int) (ts gs rs : List Int) (xss pss : List (List Int)) : List (List Int) := if psB x y z ts gs rs xss pss = true then suL ts gs pss pss.length else []
theorem su_at {ts gs : List Int} {pss : List (List Int)} {n k : Nat} (h : k < n) : (suL ts gs pss n).getD k [] = [sumT ts (phL pss k), sumM ts gs (phL pss k)] := by simp [suL, h]

set_option maxHeartbeats 8000000 in
set_option maxRecDepth 100000 in
theorem c_PhaseSums (x y z : Int) (v1 v2 v3 : Value) (ts gs rs : List Int) (xss pss : List (List Int)) (v u : Value) (w : World) (l1 : ts.length ≤ 4000000) (l2 : gs.length ≤ 4000000) (l3 : rs.length ≤ 4000000) (hs : ShortL xss) (hs2 : ShortL pss) (hm : Look w v1 v2 v3 ts gs rs) (h : SeenL w v xss) (hu : SeenL w u pss) :
    Calls Try.prog 37 #[.agg #[.int .i64 x, .int .i64 y, .int .i64 z, v1, v2, v3], v, u] w (GivesRows2 w (psA x y z ts gs rs xss pss) (psB x y z ts gs rs xss pss)) := by
  have HB0 : Hid (Below w.heap.size w (w.alloc (.cells #[.int .i64 x, .int .i64 y, .int .i64 z, v1, v2, v3] 52))) := (Below.refl _ _).alloc (Nat.le_refl _) _
  have HX0 : Hid (Box6 (w.alloc (.cells #[.int .i64 x, .int .i64 y, .int .i64 z, v1, v2, v3] 52)) w.heap.size x y z v1 v2 v3) := Box6.new w x y z v1 v2 v3 _
  have C0 := Lib.hid (c_PhasesOf xss pss v u (w.alloc (.cells #[.int .i64 x, .int .i64 y, .int .i64 z, v1, v2, v3] 52)) hs hs2 (h.below HB0.out) (hu.below HB0.out))
  have C1 : Hid (∀ w1, Below w.heap.size w w1 → Calls Try.prog 68 #[.agg #[.int .i64 x, .int .i64 y, .int .i64 z, v1, v2, v3], v] w1 fun e w' => e = .returned (.bool (mdB x y z ts gs rs xss)) ∧ Below w1.heap.size w1 w') := fun w1 hb => c_isModelOf x y z v1 v2 v3 ts gs rs xss v w1 l1 l2 l3 hs (hm.below hb) (h.below hb)
  have HMD := Lib.hid hm
  obtain ⟨A1, c1, rfl⟩ := hm.t.shape
  obtain ⟨A2, c2, rfl⟩ := hm.g.shape
  obtain ⟨A3, c3, rfl⟩ := hm.r.shape
  obtain ⟨A, c, rfl, _⟩ := h.shape
  obtain ⟨A9, c9, rfl, _⟩ := hu.shape
  have hls := hs.1
  have hls2 := hs2.1
  cases hp : pitsB xss pss
  · have HL : Hid (psA x y z ts gs rs xss pss = [] ∧ psB x y z ts gs rs xss pss = false) := by
      have hb : psB x y z ts gs rs xss pss = false := by unfold psB; rw [hp, Bool.and_false]
      exact ⟨by unfold psA; rw [hb]; rfl, hb⟩
    rw [hp] at C0
    rw [HL.out.1, HL.out.2]
    clear hm h hu hs hs2 hp
    go_enter Try.func37, Try.ntmps37
    go_wp2_with fail
    refine C0.out.mono ?_
    rintro e w1 ⟨q1, rfl, hr, hb⟩
    have HB1 := Lib.hid (HB0.out.trans (hb.mono HB0.out.size))
    obtain ⟨A5, c5, rfl⟩ := hr.shape
    clear hb hr
    go_wp2
    go_ret2
    exact ⟨_, rfl, Rows.nil _ _ _, HB1.out⟩
  · rw [hp] at C0
    cases hmo : mdB x y z ts gs rs xss
    · have HL : Hid (psA x y z ts gs rs xss pss = [] ∧ psB x y z ts gs rs xss pss = false) := by
        have hb : psB x y z ts gs rs xss pss = false := by unfold psB; rw [hmo, Bool.false_and]
        exact ⟨by unfold psA; rw [hb]; rfl, hb⟩
      rw [hmo] at C1
      rw [HL.out.1, HL.out.2]
      clear hm h hu hs hs2 hp hmo
      go_enter Try.func37, Try.ntmps37
      go_wp2_with fail
      refine C0.out.mono ?_
      rintro e w1 ⟨q1, rfl, hr, hb⟩
      have HB1 := Lib.hid (HB0.out.trans (hb.mono HB0.out.size))
      have HX1 := HX0.out.below hb
      obtain ⟨x0, x1, x2, x3, x4, x5⟩ : _ ∧ _ ∧ _ ∧ _ ∧ _ ∧ _ := ⟨HX1.c0, HX1.c1, HX1.c2, HX1.c3, HX1.c4, HX1.c5⟩
      obtain ⟨A5, c5, rfl⟩ := hr.shape
      clear hb hr HX1
      go_wp2_with fail
      refine (C1.out _ HB1.out).mono ?_
      rintro e w2 ⟨rfl, hb⟩
      have HB2 := Lib.hid (HB1.out.trans (hb.mono HB1.out.size))
      clear hb x0 x1 x2 x3 x4 x5
      go_wp2
      go_ret2
      exact ⟨_, rfl, Rows.nil _ _ _, HB2.out⟩
    · have HL : Hid (psA x y z ts gs rs xss pss = suL ts gs pss pss.length ∧ psB x y z ts gs rs xss pss = true) := by
        have hb : psB x y z ts gs rs xss pss = true := by unfold psB; rw [hmo, hp]; rfl
        exact ⟨by unfold psA; rw [hb]; rfl, hb⟩
      obtain ⟨i0, hi0, hz0, hz1, hz2⟩ := info_parts list_info
      obtain ⟨n1, n2⟩ := pits_len hp
      have hN := arc_len (pits_arc hp)
      obtain ⟨n, hnn⟩ : ∃ n, pss.length = n := ⟨_, rfl⟩
      have HNN := Lib.hid hnn
      have HPA : Hid (phA xss pss = phsL pss n) := by show _ = _; unfold phA; rw [hp, ← hnn]; rfl
      have CS : Hid (∀ (k : Nat) (q : Value) w1, k < n → Below w.heap.size w w1 → Seen w1 q (phL pss k) → Calls Try.prog 69 #[.agg #[.int .i64 x, .int .i64 y, .int .i64 z, .slice A1 ts.length c1, .slice A2 gs.length c2, .slice A3 rs.length c3], q] w1 fun e w' => e = .returned (.tuple #[.int .i64 (sumT ts (phL pss k)), .int .i64 (sumM ts gs (phL pss k))]) ∧ Below w1.heap.size w1 w') := fun k q w1 hk hb hq => by
        have hk' : k < pss.length := by omega
        have hr : risB xss.length (phL pss k) = true := less_ris _ (pit_ris (pits_at hp) hk')
        exact c_sumBlocks x y z _ _ _ ts gs rs q (phL pss k) w1 l1 l2 (by have := (ph_short hp hk').2; omega) (HMD.out.below hb) hq (md_list hmo hr)
      have hmk : Hid (∀ u : World, (Instr.makeSlice 22 (.int .i64 (n : Int)) (.int .i64 (n : Int))).run Try.prog u = .ok (.slice (some ⟨u.heap.size, 0, none⟩) n n) (u.alloc (.cells (madeCells #[.slice none 0 0] n) 35))) := fun u => by
        have := run_make (P := Try.prog) u 22 35 i0 (.slice none 0 0) Try.underlying22 hi0 hz0 .i64 .i64 (n : Int) (n : Int) (by omega) (by omega) (by rw [hz2]; omega) (by omega)
        simpa [hz1, Value.cells] using this
      have H0 : Hid (∀ u : World, Rows (u.alloc (.cells (madeCells #[.slice none 0 0] n) 35)) u.heap.size (u.alloc (.cells (madeCells #[.slice none 0 0] n) 35)).heap.size (.slice (some ⟨u.heap.size, 0, none⟩) n n) (stg (suL ts gs pss n) 0)) := fun u => by
        rw [stg_zero, su_len]; exact rows_nils u _ (by unfold maxLen; omega)
      have HLn : Hid (∀ k, k ≤ n → (stg (suL ts gs pss n) k).length = n) := fun k hk => by rw [stg_len _ _ (by rw [su_len]; exact hk), su_len]
      have HSt : Hid (∀ j, j < n → (stg (suL ts gs pss n) j).set j [sumT ts (phL pss j), sumM ts gs (phL pss j)] = stg (suL ts gs pss n) (j + 1)) := fun j hj => by
        rw [← su_at hj]; exact stg_set _ _ (by rw [su_len]; exact hj)
      have HA : Hid (stg (suL ts gs pss n) n = suL ts gs pss n) := by
        show _ = _
        have := stg_all (suL ts gs pss n)
        rwa [su_len] at this
      have HPL : Hid (∀ k, k < n → (phL pss k).length ≤ 120) := fun k hk => (ph_short hp (by omega)).2
      have HAT : Hid (∀ k, k < n → (phsL pss n).getD k [] = phL pss k) := fun k hk => phs_at hk
      have HPN : Hid ((phsL pss n).length = n) := phs_len pss n
      have HN8 : Hid (n ≤ 8) := by show _ ≤ _; omega
      rw [hmo] at C1
      rw [HPA.out, hnn] at C0
      rw [HL.out.1, HL.out.2, hnn]
      clear hm h hu hs hs2 hp hmo hi0 hz0 hz1 hz2 hnn HL n1 n2 hN
      generalize stg (suL ts gs pss n) = M at *
      generalize phsL pss n = PH at *
      go_enter Try.func37, Try.ntmps37
      go_wp2_with fail
      refine C0.out.mono ?_
      rintro e w1 ⟨q1, rfl, hr, hb⟩
      have HB1 := Lib.hid (HB0.out.trans (hb.mono HB0.out.size))
      have HX1 := Lib.hid (HX0.out.below hb)
      obtain ⟨x0, x1, x2, x3, x4, x5⟩ : _ ∧ _ ∧ _ ∧ _ ∧ _ ∧ _ := ⟨HX1.out.c0, HX1.out.c1, HX1.out.c2, HX1.out.c3, HX1.out.c4, HX1.out.c5⟩
      obtain ⟨A5, c5, rfl⟩ := hr.shape
      have HPH := Lib.hid hr.seen
      rw [HPN.out] at HPH ⊢
      clear hb hr
      go_wp2_with fail
      refine (C1.out _ HB1.out).mono ?_
      rintro e w2 ⟨rfl, hb⟩
      have HB2 := Lib.hid (HB1.out.trans (hb.mono HB1.out.size))
      have HX2 := Lib.hid (HX1.out.below hb)
      have HPH2 := Lib.hid (HPH.out.below hb)
      clear hb x0 x1 x2 x3 x4 x5
      have hmw := hmk.out w2
      have hwG : w.heap.size ≤ w2.heap.size := HB2.out.size
      have HR1 := Lib.hid (H0.out w2)
      have hal : Below w2.heap.size w2 (w2.alloc (.cells (madeCells #[.slice none 0 0] n) 35)) := (Below.refl _ w2).alloc (Nat.le_refl _) _
      have HBa : Hid (Below w.heap.size w (w2.alloc (.cells (madeCells #[.slice none 0 0] n) 35))) := HB2.out.alloc hwG _
      have HXa := Lib.hid (HX2.out.below hal)
      have HGa := Lib.hid hal
      have hza : (w2.alloc (.cells (madeCells #[.slice none 0 0] n) 35)).heap.size = w2.heap.size + 1 := by simp
      have hbx : w.heap.size < w2.heap.size := HX2.out.lt
      clear hmk H0 hal
      go_wp2_with fail
      clear hmw
      generalize w2.alloc (.cells (madeCells #[.slice none 0 0] n) 35) = wa at *
      obtain ⟨G, hGG⟩ : ∃ G, w2.heap.size = G := ⟨_, rfl⟩
      have HW2 := Lib.hid hGG
      rw [hGG] at hwG HR1 hza hbx HGa ⊢
      clear hGG
      go_loopw [34] (fun i wr => ∃ k : Nat, k ≤ n ∧ i = .int .i64 k ∧ Rows wr G wr.heap.size (.slice (some ⟨G, 0, none⟩) n n) (M k) ∧ Below w.heap.size w wr ∧ G < wr.heap.size ∧ Below G w2 wr) (fun i _ => n - (RowKit.intOf i).toNat)
      case atStart => exact ⟨0, Nat.zero_le _, rfl, HR1.out, HBa.out, by omega, HGa.out⟩
      case round =>
        obtain ⟨k, hk, rfl, hr, hb, hsz, hb2⟩ := hrel
        have HR := Lib.hid hr
        have HB := Lib.hid hb
        have HBG := Lib.hid hb2
        clear hr hb hb2
        by_cases hlt : k < n
        · have hps := HPH2.out.below (w' := wr) (by rw [HW2.out]; exact HBG.out)
          have HXr := HX2.out.below (w' := wr) (by rw [HW2.out]; exact HBG.out)
          obtain ⟨b, off, A', c', rfl, hbl, q0, hse⟩ := hps.at_ (k := k) (by rw [HPN.out]; exact hlt)
          rw [HAT.out k hlt] at q0 hse
          obtain ⟨x0, x1, x2, x3, x4, x5⟩ : _ ∧ _ ∧ _ ∧ _ ∧ _ ∧ _ := ⟨HXr.c0, HXr.c1, HXr.c2, HXr.c3, HXr.c4, HXr.c5⟩
          have HC1 := Lib.hid (CS.out k _ wr hlt HB.out hse)
          have hset := Lib.hid (HSt.out k hlt)
          have hlk := Lib.hid (HLn.out k hk)
          have hl1 := HPL.out k hlt
          have hk8 : k < 8 := by have := HN8.out; omega
          have b1 : (0 : Int) ≤ (k : Int) := by omega
          have b2 : (k : Int) < (n : Int) := by omega
          clear hps hse HXr
          generalize sumT ts (phL pss k) = S at *
          generalize sumM ts gs (phL pss k) = T at *
          generalize (phL pss k).length = mm at *
          go_wp2_with fail
          refine HC1.out.mono ?_
          rintro e w3 ⟨rfl, hb3⟩
          have s2 := hb3.size
          have HB3 : Hid (Below w.heap.size w w3) := HB.out.trans (hb3.mono HB.out.size)
          have HG3 : Hid (Below G w2 w3) := HBG.out.trans (hb3.mono (by omega))
          have HR3 := Lib.hid (HR.out.below hb3 (Nat.le_refl _))
          have hs3 : G < w3.heap.size := Nat.lt_of_lt_of_le hsz s2
          have hbb : Below w3.heap.size w3 (w3.alloc (.cells #[.int .i64 S, .int .i64 T] 3)) := (Below.refl _ w3).alloc (Nat.le_refl _) _
          have HP := Lib.hid (row_pair w3 S T)
          have hpo : Hid (∀ j, (Value.slice (some ⟨w3.heap.size, 0, none⟩) 2 2).ownBlock = some j → wr.heap.size ≤ j) := fun j hj => by simp [Value.ownBlock] at hj; omega
          obtain ⟨vs, kv3⟩ := HR3.out
          have kv := kv3.stays (w' := w3.alloc (.cells #[.int .i64 S, .int .i64 T] 3)) (fun q _ hq => hbb.block q (by omega))
          have q1 : w3.cell? ⟨G, k, none⟩ = some (vs.getD k (.slice none 0 0)) := by
            have hv := kv3
            rw [← hlk.out] at hv
            exact hv.cell (by rw [hlk.out]; exact hlt)
          have q2 : w3.frozen? ⟨G, k, none⟩ = false := by
            have hv := kv3.own
            rw [hlk.out] at hv
            exact World.ownsRow.frozenAt hv k
          have N1 := Lib.hid (RowsV.put kv hlk.out.symm (by rw [hlk.out]; exact hlt) (HP.out.mono (Nat.le_of_lt hs3)) hpo.out)
          rw [hset.out] at N1
          have NB : Hid (Below w.heap.size w ((w3.alloc (.cells #[.int .i64 S, .int .i64 T] 3)).setCell ⟨G, k, none⟩ (.slice (some ⟨w3.heap.size, 0, none⟩) 2 2))) := (HB3.out.alloc HB3.out.size _).setCell hwG _
          have NG : Hid (Below G w2 ((w3.alloc (.cells #[.int .i64 S, .int .i64 T] 3)).setCell ⟨G, k, none⟩ (.slice (some ⟨w3.heap.size, 0, none⟩) 2 2))) := (HG3.out.alloc (Nat.le_of_lt hs3) _).setCell (Nat.le_refl _) _
          clear kv kv3 hbb hb3 x0 x1 x2 x3 x4 x5 q0
          generalize vs.getD k (.slice none 0 0) = z0 at *
          have HW : Hid ((w3.alloc (.cells #[.int .i64 S, .int .i64 T] 3)).setCell ⟨G, k, none⟩ (.slice (some ⟨w3.heap.size, 0, none⟩) 2 2) = (w3.setCell ⟨G, k, none⟩ (.slice (some ⟨w3.heap.size, 0, none⟩) 2 2)).alloc (.cells #[.int .i64 S, .int .i64 T] 3)) := World.setCell_alloc_past _ G k _ hs3
          rw [HW.out] at N1 NB NG
          clear HW
          go_wp2
          go_roundw
          case rel => exact ⟨k + 1, by omega, by go_num, ⟨_, N1.out⟩, NB.out, by simp; omega, NG.out⟩
          case measure => simp [RowKit.intOf]; omega
        · obtain rfl : k = n := by omega
          go_wp2
          go_ret2
          exact ⟨_, rfl, by have := HR.out; rw [HA.out] at this; exact this.mono hwG, HB.out⟩
end Go.Proofs.Ytlgbhemjckahhaa

namespace Go.Proofs.Ytlgbhemjckahhaa
open Go.RowKit
set_option linter.unusedVariables false

def jpB (x y z : Int) (ts gs rs : List Int) (xss pss : List (List Int)) (least : Int) : Bool := mdB x y z ts gs rs xss && (pitsB xss pss && decide (0 ≤ least ∧ least ≤ 2000000))
def jpA (x y z : Int) (ts gs rs : List Int) (xss pss : List (List Int)) (least : Int) : List (List Int) := if jpB x y z ts gs rs xss pss least = true then (joS ts pss least pss.length).1 else []
theorem sum_box12 {x y z : Int} {ts gs rs bs : List Int} (h : listB x y z ts gs rs bs = true) : 0 ≤ sumT ts bs ∧ sumT ts bs ≤ 4000000000 ∧ 0 ≤ sumM ts gs bs ∧ sumM ts gs bs ≤ 4000000000 := by
  have hl := list_len h
  have a := sumN_box (f := tonF ts bs) (n := bs.length) (fun k hk => ton_box h hk) (by omega) bs.length (Nat.le_refl _)
  have b := sumN_box (f := metF ts gs bs) (n := bs.length) (fun k hk => met_box h hk) (by omega) bs.length (Nat.le_refl _)
  unfold sumT sumM
  omega
theorem pits_short8 {xss pss : List (List Int)} (h : pitsB xss pss = true) {k : Nat} (hk : k < pss.length) : 0 < (pss.getD k []).length ∧ (pss.getD k []).length ≤ 120 := by
  have h1 := ris_len (pit_ris (pits_at h) hk) (by have := arc_len (pits_arc h); omega)
  have h2 := (pitC_iff.1 (pits_at h k hk)).2.2
  have h3 := arc_len (pits_arc h)
  omega

set_option maxHeartbeats 8000000 in
set_option maxRecDepth 100000 in
theorem c_JoinPhases (x y z : Int) (v1 v2 v3 : Value) (ts gs rs : List Int) (xss pss : List (List Int)) (least : Int) (v u : Value) (w : World) (l1 : ts.length ≤ 4000000) (l2 : gs.length ≤ 4000000) (l3 : rs.length ≤ 4000000) (hs : ShortL xss) (hs2 : ShortL pss) (hm : Look w v1 v2 v3 ts gs rs) (h : SeenL w v xss) (hu : SeenL w u pss) :
    Calls Try.prog 41 #[.agg #[.int .i64 x, .int .i64 y, .int .i64 z, v1, v2, v3], v, u, .int .i64 least] w (GivesRows2 w (jpA x y z ts gs rs xss pss least) (jpB x y z ts gs rs xss pss least)) := by
  have HB0 : Hid (Below w.heap.size w (w.alloc (.cells #[.int .i64 x, .int .i64 y, .int .i64 z, v1, v2, v3] 52))) := (Below.refl _ _).alloc (Nat.le_refl _) _
  have HX0 : Hid (Box6 (w.alloc (.cells #[.int .i64 x, .int .i64 y, .int .i64 z, v1, v2, v3] 52)) w.heap.size x y z v1 v2 v3) := Box6.new w x y z v1 v2 v3 _
  obtain ⟨j0, hj0, hy0, hy1, hy2⟩ := info_parts list_info
  have HJ := Lib.hid hj0
  clear hj0
  have C1 := Lib.hid (c_isModelOf x y z v1 v2 v3 ts gs rs xss v (w.alloc (.cells #[.int .i64 x, .int .i64 y, .int .i64 z, v1, v2, v3] 52)) l1 l2 l3 hs (hm.below HB0.out) (h.below HB0.out))
  have C2 : Hid (∀ w1, Below w.heap.size w w1 → Calls Try.prog 48 #[v, u] w1 fun e w' => e = .returned (.bool (pitsB xss pss)) ∧ Below w1.heap.size w1 w') := fun w1 hb => c_arePits xss pss v u w1 hs hs2 (h.below hb) (hu.below hb)
  have HMD := Lib.hid hm
  have HPs := Lib.hid hu
  obtain ⟨A1, c1, rfl⟩ := hm.t.shape
  obtain ⟨A2, c2, rfl⟩ := hm.g.shape
  obtain ⟨A3, c3, rfl⟩ := hm.r.shape
  obtain ⟨A, c, rfl, _⟩ := h.shape
  obtain ⟨A9, c9, rfl, _⟩ := hu.shape
  clear hm h hu
  cases hmo : mdB x y z ts gs rs xss
  · rw [hmo] at C1
    have HL : Hid (jpA x y z ts gs rs xss pss least = [] ∧ jpB x y z ts gs rs xss pss least = false) := by
      have hb : jpB x y z ts gs rs xss pss least = false := by unfold jpB; rw [hmo, Bool.false_and]
      exact ⟨by unfold jpA; rw [hb]; rfl, hb⟩
    rw [HL.out.1, HL.out.2]
    clear hs hs2 hmo
    go_enter Try.func41, Try.ntmps41
    go_wp2_with fail
    refine C1.out.mono ?_
    rintro e w1 ⟨rfl, hb⟩
    have HB1 := Lib.hid (HB0.out.trans (hb.mono HB0.out.size))
    have HX1 := Lib.hid (HX0.out.below hb)
    clear hb
    go_wp2
    go_ret2
    exact ⟨_, rfl, Rows.nil _ _ _, HB1.out⟩
  · rw [hmo] at C1
    cases hp : pitsB xss pss
    · rw [hp] at C2
      have HL : Hid (jpA x y z ts gs rs xss pss least = [] ∧ jpB x y z ts gs rs xss pss least = false) := by
        have hb : jpB x y z ts gs rs xss pss least = false := by unfold jpB; rw [hp, Bool.false_and, Bool.and_false]
        exact ⟨by unfold jpA; rw [hb]; rfl, hb⟩
      rw [HL.out.1, HL.out.2]
      clear hs hs2 hmo hp
      go_enter Try.func41, Try.ntmps41
      go_wp2_with fail
      refine C1.out.mono ?_
      rintro e w1 ⟨rfl, hb⟩
      have HB1 := Lib.hid (HB0.out.trans (hb.mono HB0.out.size))
      have HX1 := Lib.hid (HX0.out.below hb)
      clear hb
      go_wp2_with fail
      refine (C2.out _ HB1.out).mono ?_
      rintro e w2 ⟨rfl, hb⟩
      have HB2 := Lib.hid (HB1.out.trans (hb.mono HB1.out.size))
      have HX2 := Lib.hid (HX1.out.below hb)
      clear hb
      go_wp2
      go_ret2
      exact ⟨_, rfl, Rows.nil _ _ _, HB2.out⟩
    · rw [hp] at C2
      by_cases hl1 : least < 0
      · have HL : Hid (jpA x y z ts gs rs xss pss least = [] ∧ jpB x y z ts gs rs xss pss least = false) := by
          have hb : jpB x y z ts gs rs xss pss least = false := by unfold jpB; rw [decide_eq_false (by omega), Bool.and_false, Bool.and_false]
          exact ⟨by unfold jpA; rw [hb]; rfl, hb⟩
        rw [HL.out.1, HL.out.2]
        clear hs hs2 hmo hp
        go_enter Try.func41, Try.ntmps41
        go_wp2_with fail
        refine C1.out.mono ?_
        rintro e w1 ⟨rfl, hb⟩
        have HB1 := Lib.hid (HB0.out.trans (hb.mono HB0.out.size))
        have HX1 := Lib.hid (HX0.out.below hb)
        clear hb
        go_wp2_with fail
        refine (C2.out _ HB1.out).mono ?_
        rintro e w2 ⟨rfl, hb⟩
        have HB2 := Lib.hid (HB1.out.trans (hb.mono HB1.out.size))
        have HX2 := Lib.hid (HX1.out.below hb)
        clear hb
        go_wp2
        go_ret2
        exact ⟨_, rfl, Rows.nil _ _ _, HB2.out⟩
      by_cases hl2 : least > 2000000
      · have HL : Hid (jpA x y z ts gs rs xss pss least = [] ∧ jpB x y z ts gs rs xss pss least = false) := by
          have hb : jpB x y z ts gs rs xss pss least = false := by unfold jpB; rw [decide_eq_false (by omega), Bool.and_false, Bool.and_false]
          exact ⟨by unfold jpA; rw [hb]; rfl, hb⟩
        rw [HL.out.1, HL.out.2]
        clear hs hs2 hmo hp
        go_enter Try.func41, Try.ntmps41
        go_wp2_with fail
        refine C1.out.mono ?_
        rintro e w1 ⟨rfl, hb⟩
        have HB1 := Lib.hid (HB0.out.trans (hb.mono HB0.out.size))
        have HX1 := Lib.hid (HX0.out.below hb)
        clear hb
        go_wp2_with fail
        refine (C2.out _ HB1.out).mono ?_
        rintro e w2 ⟨rfl, hb⟩
        have HB2 := Lib.hid (HB1.out.trans (hb.mono HB1.out.size))
        have HX2 := Lib.hid (HX1.out.below hb)
        clear hb
        go_wp2
        go_ret2
        exact ⟨_, rfl, Rows.nil _ _ _, HB2.out⟩
      have HL : Hid (jpA x y z ts gs rs xss pss least = (joS ts pss least pss.length).1 ∧ jpB x y z ts gs rs xss pss least = true) := by
        have hb : jpB x y z ts gs rs xss pss least = true := by unfold jpB; rw [hmo, hp, decide_eq_true (by omega)]; rfl
        exact ⟨by unfold jpA; rw [hb]; rfl, hb⟩
      obtain ⟨n1, n2⟩ := pits_len hp
      obtain ⟨n, hnn⟩ : ∃ n, pss.length = n := ⟨_, rfl⟩
      have HNN := Lib.hid hnn
      have HLP : Hid (∀ k, k < n → 0 < (pss.getD k []).length ∧ (pss.getD k []).length ≤ 120) := fun k hk => pits_short8 hp (by omega)
      have CS : Hid (∀ (k : Nat) (q : Value) w1, k < n → Below w.heap.size w w1 → Seen w1 q (pss.getD k []) → Calls Try.prog 69 #[.agg #[.int .i64 x, .int .i64 y, .int .i64 z, .slice A1 ts.length c1, .slice A2 gs.length c2, .slice A3 rs.length c3], q] w1 fun e w' => e = .returned (.tuple #[.int .i64 (sumT ts (pss.getD k [])), .int .i64 (sumM ts gs (pss.getD k []))]) ∧ Below w1.heap.size w1 w') := fun k q w1 hk hb hq => by
        have hk' : k < pss.length := by omega
        have hr : risB xss.length (pss.getD k []) = true := pit_ris (pits_at hp) hk'
        exact c_sumBlocks x y z _ _ _ ts gs rs q (pss.getD k []) w1 l1 l2 (by have := (pits_short8 hp hk').2; omega) (HMD.out.below hb) hq (md_list hmo hr)
      have HBd : Hid (∀ k, k < n → 0 ≤ sumT ts (pss.getD k []) ∧ sumT ts (pss.getD k []) ≤ 4000000000) := fun k hk => by
        have := sum_box12 (md_list hmo (pit_ris (pits_at hp) (k := k) (by omega)))
        exact ⟨this.1, this.2.1⟩
      have HBj : Hid (∀ k, k ≤ n → 0 ≤ sumT ts (joS ts pss least k).2 ∧ sumT ts (joS ts pss least k).2 ≤ 4000000000) := fun k hk => by
        have := sum_box12 (md_list hmo (jo_ris (ts := ts) (least := least) (pits_at hp) (k := k) (by omega)))
        exact ⟨this.1, this.2.1⟩
      have HSk : Hid (∀ k, k + 1 < n → sumT ts (pss.getD k []) - sumT ts (joS ts pss least k).2 < least → joS ts pss least (k + 1) = joS ts pss least k) := fun k hk hh => by
        rw [← jo_sum (pits_at hp) (by omega)] at hh
        exact jo_skip (by omega) hh
      have HKp : Hid (∀ k, k < n → ¬ (k + 1 < n ∧ sumT ts (pss.getD k []) - sumT ts (joS ts pss least k).2 < least) → (joS ts pss least k).1 ++ [pss.getD k []] = (joS ts pss least (k + 1)).1 ∧ (joS ts pss least (k + 1)).2 = pss.getD k []) := fun k hk hh => by
        rw [← jo_sum (pits_at hp) (by omega)] at hh
        rw [jo_keep (by rw [hnn]; exact hh)]
        exact ⟨rfl, rfl⟩
      have H0 : Hid (joS ts pss least 0 = ([], [])) := rfl
      have HS0 : Hid (sumT ts [] = 0) := rfl
      have HLn : Hid (∀ k, (joS ts pss least k).1.length ≤ k) := fun k => jo_len ts pss least k
      have HN8 : Hid (n ≤ 8) := by show _ ≤ _; omega
      rw [HL.out.1, HL.out.2]
      rw [hnn] at C2 ⊢
      clear hs hs2 hmo hp HL hnn n1 n2
      generalize joS ts pss least = F at *
      go_enter Try.func41, Try.ntmps41
      go_wp2_with fail
      refine C1.out.mono ?_
      rintro e w1 ⟨rfl, hb⟩
      have HB1 := Lib.hid (HB0.out.trans (hb.mono HB0.out.size))
      have HX1 := Lib.hid (HX0.out.below hb)
      clear hb
      go_wp2_with fail
      refine (C2.out _ HB1.out).mono ?_
      rintro e w2 ⟨rfl, hb⟩
      have HB2 := Lib.hid (HB1.out.trans (hb.mono HB1.out.size))
      have HX2 := Lib.hid (HX1.out.below hb)
      clear hb
      go_wp2_with fail
      go_loopw [10, 11, 36] (fun o K i wr => ∃ (k : Nat), k ≤ n ∧ i = .int .i64 k ∧ K = .int .i64 (sumT ts (F k).2) ∧ Rows wr w2.heap.size wr.heap.size o (F k).1 ∧ Below w.heap.size w wr ∧ Below w2.heap.size w2 wr) (fun _ _ i _ => n - (RowKit.intOf i).toNat)
      case atStart => exact ⟨0, Nat.zero_le _, rfl, by rw [H0.out, HS0.out], by rw [H0.out]; exact Rows.nil _ _ _, HB2.out, Below.refl _ _⟩
      case round =>
        obtain ⟨k, hk, rfl, rfl, hr, hb, hb2⟩ := hrel
        have HB := Lib.hid hb
        have HBG := Lib.hid hb2
        obtain ⟨AO, CO, hso⟩ := hr.shape
        subst hso
        have HR := Lib.hid hr
        clear hr hb hb2
        by_cases hlt : k < n
        · have HXr := HX2.out.below HBG.out
          obtain ⟨x0, x1, x2, x3, x4, x5⟩ : _ ∧ _ ∧ _ ∧ _ ∧ _ ∧ _ := ⟨HXr.c0, HXr.c1, HXr.c2, HXr.c3, HXr.c4, HXr.c5⟩
          obtain ⟨b, off, A', c', rfl, hbl, q0', hse⟩ := HPs.out.at_ (k := k) (by rw [HNN.out]; exact hlt)
          have q0 : wr.cell? ⟨b, off + k, none⟩ = some (.slice A' (pss.getD k []).length c') := (HB.out.cell (p := ⟨b, off + k, none⟩) hbl).trans q0'
          have HSE := Lib.hid (hse.below HB.out)
          have HC1 := Lib.hid (CS.out k _ wr hlt HB.out (hse.below HB.out))
          have hk8 : k < 8 := by have := HN8.out; omega
          obtain ⟨hlp, hlp2⟩ := HLP.out k hlt
          obtain ⟨s1, s2⟩ := HBd.out k hlt
          obtain ⟨s3, s4⟩ := HBj.out k hk
          have HSk_ := Lib.hid (HSk.out k)
          have HKp_ := Lib.hid (HKp.out k hlt)
          obtain ⟨nq, hlen⟩ : ∃ nq, (F k).1.length = nq := ⟨_, rfl⟩
          have hnq : nq ≤ 8 := by have := HLn.out k; omega
          have b1 : (0 : Int) ≤ (k : Int) := by omega
          have b2 : (k : Int) < (n : Int) := by omega
          rw [hlen] at HR ⊢
          have HLE := Lib.hid hlen
          clear hse q0' HXr hlen
          by_cases hge : sumT ts (pss.getD k []) - sumT ts (F k).2 ≥ least
          · have HKE := HKp_.out (by omega)
            have ON := Lib.hid (HKE.1)
            have E2 := Lib.hid (HKE.2)
            clear HKE
            generalize sumT ts (F k).2 = K at *
            generalize sumM ts gs (pss.getD k []) = T at *
            generalize pss.getD k [] = ys at *
            generalize hS : sumT ts ys = S at *
            have HS_ := Lib.hid hS
            clear hS
            go_wp2_with fail
            refine HC1.out.mono ?_
            rintro e w3 ⟨rfl, hb3⟩
            have HB3 := Lib.hid (HBG.out.trans (hb3.mono HBG.out.size))
            have hs3z := hb3.size
            have HR3 := Lib.hid (HR.out.below hb3 (Nat.le_refl _))
            have HC3 := Lib.hid (c_Clone ys _ w3 (by omega) hlp (HSE.out.below hb3))
            clear hb3 x0 x1 x2 x3 x4 x5
            go_wp2_with fail
            refine HC3.out.mono ?_
            rintro e wi ⟨p, rfl, hpr, hb3⟩
            obtain ⟨AK, CK, hps⟩ := hpr.shape
            subst hps
            have HRK := Lib.hid hpr
            have HBw : Hid (Below w2.heap.size w2 wi) := HB3.out.trans (hb3.mono HB3.out.size)
            have hbr_ := Lib.hid HB3.out.size
            have hro_ := Lib.hid (Nat.le_trans hs3z hb3.size)
            have HRo := Lib.hid (HR3.out.below hb3 hs3z)
            have HSPi := Lib.hid hpr
            clear hpr hb3
            have hlen : (F k).1.length = nq := HLE.out
            have hbb : Below wi.heap.size wi (wi.alloc (.cells #[.slice AK ys.length CK] 35)) := (Below.refl _ _).alloc (Nat.le_refl _) _
            have HP6 := Lib.hid ((HRK.out.mono (Nat.le_trans hbr_.out (Nat.le_refl _))).below hbb)
            have HR6 := Lib.hid (HRo.out.below hbb hro_.out)
            have HB6 : Hid (Below w2.heap.size w2 (wi.alloc (.cells #[.slice AK ys.length CK] 35))) := HBw.out.trans (hbb.mono HBw.out.size)
            have hpo : Hid (∀ m, (Value.slice AK ys.length CK).ownBlock = some m → wr.heap.size ≤ m) := fun m hm => Nat.le_trans (hs3z) (World.ownsRow.lt HRK.out m hm).1
            clear hbb
            obtain ⟨vs, hv6⟩ := HR6.out
            have HV6 := Lib.hid hv6
            clear hv6
            have sz5 := HBw.out.size
            have HLN := Lib.hid hlen
            clear hlen
            have hown : Hid ((wi.alloc (.cells #[.slice AK ys.length CK] 35)).ownsRow w2.heap.size 35 1 (.slice AO nq CO) nq vs) := by
              have := HV6.out.own
              rw [HLN.out] at this
              exact this
            go_wp2_with (at_builtin; refine wpList_append_own _ rfl _ _ 22 rfl w2.heap.size 35 j0 (.slice none 0 0) 1 24 Try.underlying22 HJ.out hy0 hy1 hy2 rfl (by decide) _ _ _ rfl hown.out ⟨wi.heap.size, 0, none⟩ 1 1 [.slice AK ys.length CK] rfl rfl ?e1 ?e2 ?e3 ?e4 ?e5 ?_)
            case e1 =>
              intro q u hq
              match q, hq with
              | 0, hq => simp at hq; subst hq; simp [Addr.add]
            case e2 => intro u hu; simp at hu; subst hu; rfl
            case e3 => unfold maxLen; omega
            case e4 => omega
            case e5 => simp; omega
            intro v' w7 hown' hgrow _
            have N1 : Hid (Rows w7 w2.heap.size w7.heap.size v' _) := ⟨_, by
              have := HV6.out.push HP6.out (fun m hm => hpo.out m hm) (by rw [HLN.out]; exact hown') hgrow
              rw [ON.out] at this
              exact this⟩
            have NR := Lib.hid (World.ownsRow.kept HP6.out hgrow (HV6.out.apart_row HP6.out))
            have N2 : Hid (Below w2.heap.size w2 w7) := HB6.out.grown hgrow (by simp; omega) (fun g hg => (World.ownsRow.lt hown.out g hg).1)
            clear hown' hgrow
            have N3 : Hid (Below w.heap.size w w7) := HB2.out.trans (N2.out.mono HB2.out.size)
            go_wp2
            go_roundw
            case rel => exact ⟨k + 1, by omega, by go_num, by rw [E2.out, HS_.out], N1.out, N3.out, N2.out⟩
            case measure => simp [RowKit.intOf]; omega
          have hlt2 : sumT ts (pss.getD k []) - sumT ts (F k).2 < least := by omega
          by_cases hend : k + 1 = n
          · have HKE := HKp_.out (by omega)
            have he : (n : Int) - 1 = (k : Int) := by omega
            have ON := Lib.hid (HKE.1)
            have E2 := Lib.hid (HKE.2)
            clear HKE
            generalize sumT ts (F k).2 = K at *
            generalize sumM ts gs (pss.getD k []) = T at *
            generalize pss.getD k [] = ys at *
            generalize hS : sumT ts ys = S at *
            have HS_ := Lib.hid hS
            clear hS
            go_wp2_with fail
            refine HC1.out.mono ?_
            rintro e w3 ⟨rfl, hb3⟩
            have HB3 := Lib.hid (HBG.out.trans (hb3.mono HBG.out.size))
            have hs3z := hb3.size
            have HR3 := Lib.hid (HR.out.below hb3 (Nat.le_refl _))
            have HC3 := Lib.hid (c_Clone ys _ w3 (by omega) hlp (HSE.out.below hb3))
            clear hb3 x0 x1 x2 x3 x4 x5
            go_wp2_with fail
            refine HC3.out.mono ?_
            rintro e wi ⟨p, rfl, hpr, hb3⟩
            obtain ⟨AK, CK, hps⟩ := hpr.shape
            subst hps
            have HRK := Lib.hid hpr
            have HBw : Hid (Below w2.heap.size w2 wi) := HB3.out.trans (hb3.mono HB3.out.size)
            have hbr_ := Lib.hid HB3.out.size
            have hro_ := Lib.hid (Nat.le_trans hs3z hb3.size)
            have HRo := Lib.hid (HR3.out.below hb3 hs3z)
            have HSPi := Lib.hid hpr
            clear hpr hb3
            have hlen : (F k).1.length = nq := HLE.out
            have hbb : Below wi.heap.size wi (wi.alloc (.cells #[.slice AK ys.length CK] 35)) := (Below.refl _ _).alloc (Nat.le_refl _) _
            have HP6 := Lib.hid ((HRK.out.mono (Nat.le_trans hbr_.out (Nat.le_refl _))).below hbb)
            have HR6 := Lib.hid (HRo.out.below hbb hro_.out)
            have HB6 : Hid (Below w2.heap.size w2 (wi.alloc (.cells #[.slice AK ys.length CK] 35))) := HBw.out.trans (hbb.mono HBw.out.size)
            have hpo : Hid (∀ m, (Value.slice AK ys.length CK).ownBlock = some m → wr.heap.size ≤ m) := fun m hm => Nat.le_trans (hs3z) (World.ownsRow.lt HRK.out m hm).1
            clear hbb
            obtain ⟨vs, hv6⟩ := HR6.out
            have HV6 := Lib.hid hv6
            clear hv6
            have sz5 := HBw.out.size
            have HLN := Lib.hid hlen
            clear hlen
            have hown : Hid ((wi.alloc (.cells #[.slice AK ys.length CK] 35)).ownsRow w2.heap.size 35 1 (.slice AO nq CO) nq vs) := by
              have := HV6.out.own
              rw [HLN.out] at this
              exact this
            go_wp2_with (at_builtin; refine wpList_append_own _ rfl _ _ 22 rfl w2.heap.size 35 j0 (.slice none 0 0) 1 24 Try.underlying22 HJ.out hy0 hy1 hy2 rfl (by decide) _ _ _ rfl hown.out ⟨wi.heap.size, 0, none⟩ 1 1 [.slice AK ys.length CK] rfl rfl ?e1 ?e2 ?e3 ?e4 ?e5 ?_)
            case e1 =>
              intro q u hq
              match q, hq with
              | 0, hq => simp at hq; subst hq; simp [Addr.add]
            case e2 => intro u hu; simp at hu; subst hu; rfl
            case e3 => unfold maxLen; omega
            case e4 => omega
            case e5 => simp; omega
            intro v' w7 hown' hgrow _
            have N1 : Hid (Rows w7 w2.heap.size w7.heap.size v' _) := ⟨_, by
              have := HV6.out.push HP6.out (fun m hm => hpo.out m hm) (by rw [HLN.out]; exact hown') hgrow
              rw [ON.out] at this
              exact this⟩
            have NR := Lib.hid (World.ownsRow.kept HP6.out hgrow (HV6.out.apart_row HP6.out))
            have N2 : Hid (Below w2.heap.size w2 w7) := HB6.out.grown hgrow (by simp; omega) (fun g hg => (World.ownsRow.lt hown.out g hg).1)
            clear hown' hgrow
            have N3 : Hid (Below w.heap.size w w7) := HB2.out.trans (N2.out.mono HB2.out.size)
            go_wp2
            go_roundw
            case rel => exact ⟨k + 1, by omega, by go_num, by rw [E2.out, HS_.out], N1.out, N3.out, N2.out⟩
            case measure => simp [RowKit.intOf]; omega
          have he : ¬ ((k : Int) = (n : Int) - 1) := by omega
          have hcc : (((k : Int) == wrap64 ((n : Int) - 1)) = true) = False := by
            rw [IntWalk.wrap64_in _ (by have := HN8.out; omega), beq_iff_eq]
            exact eq_false (by omega)
          have hcd : (least ≤ sumT ts (pss.getD k []) - sumT ts (F k).2) = False := eq_false (by omega)
          have hce : ¬ (least ≤ sumT ts (pss.getD k []) - sumT ts (F k).2 ∨ ((k : Int) == wrap64 ((n : Int) - 1)) = true) := by
            rw [hcc, hcd]; simp
          clear hcc hcd
          have E2 := Lib.hid (HSk_.out (by omega) (by omega))
          clear hge
          generalize (pss.getD k []).length = mm at *
          generalize sumT ts (pss.getD k []) = S at *
          generalize hK : sumT ts (F k).2 = K at *
          have HK_ := Lib.hid hK
          clear hK
          generalize sumM ts gs (pss.getD k []) = T at *
          go_wp2_with fail
          refine HC1.out.mono ?_
          rintro e w3 ⟨rfl, hb3⟩
          have HB3 := Lib.hid (HB.out.trans (hb3.mono HB.out.size))
          have HBG3 := Lib.hid (HBG.out.trans (hb3.mono HBG.out.size))
          have HR3 := Lib.hid (HR.out.below hb3 (Nat.le_refl _))
          have hs3z := hb3.size
          have HRu := Lib.hid (HR3.out.upR hs3z)
          rw [← HLE.out] at HRu ⊢
          clear hb3 x0 x1 x2 x3 x4 x5
          go_wp2
          go_roundw
          case rel => exact ⟨k + 1, by omega, by go_num, by rw [E2.out, HK_.out], by rw [E2.out]; exact HRu.out, HB3.out, HBG3.out⟩
          case measure => simp [RowKit.intOf]; omega
        · obtain rfl : k = n := by omega
          go_wp2
          go_ret2
          exact ⟨_, rfl, HR.out.mono HB2.out.size, HB.out⟩
end Go.Proofs.Ytlgbhemjckahhaa

namespace Go.Proofs.Ytlgbhemjckahhaa
open Go.RowKit
set_option linter.unusedVariables false

theorem mdB_eq (x y z : Int) (ts gs rs : List Int) (xss : List (List Int)) : mdB x y z ts gs rs xss = (moB x y z ts gs rs && decide ((xss.length : Int) = x * y * z)) := by
  unfold mdB
  cases h : moB x y z ts gs rs
  · rfl
  · rw [(mo_true h).2.1]

set_option maxHeartbeats 4000000 in
theorem c_phModel (x y z : Int) (v1 v2 v3 : Value) (ts gs rs : List Int) (xss pss : List (List Int)) (v u : Value) (w : World) (l1 : ts.length ≤ 4000000) (l2 : gs.length ≤ 4000000) (l3 : rs.length ≤ 4000000) (hs : ShortL xss) (hs2 : ShortL pss) (hm : Look w v1 v2 v3 ts gs rs) (h : SeenL w v xss) (hu : SeenL w u pss) :
    Calls Try.prog 66 #[.agg #[.int .i64 x, .int .i64 y, .int .i64 z, v1, v2, v3], v, u] w fun e w' => e = .returned (.bool (psB x y z ts gs rs xss pss)) ∧ Below w.heap.size w w' := by
  have HB0 : Hid (Below w.heap.size w (w.alloc (.cells #[.int .i64 x, .int .i64 y, .int .i64 z, v1, v2, v3] 52))) := (Below.refl _ _).alloc (Nat.le_refl _) _
  have HX0 : Hid (Box6 (w.alloc (.cells #[.int .i64 x, .int .i64 y, .int .i64 z, v1, v2, v3] 52)) w.heap.size x y z v1 v2 v3) := Box6.new w x y z v1 v2 v3 _
  have C := Lib.hid (c_moGood x y z v1 v2 v3 ts gs rs (w.alloc (.cells #[.int .i64 x, .int .i64 y, .int .i64 z, v1, v2, v3] 52)) l1 l2 l3 (hm.below HB0.out))
  have C3 : Hid (∀ w1, Below w.heap.size w w1 → Calls Try.prog 49 #[v, u] w1 fun e w' => e = .returned (.bool (pitsB xss pss)) ∧ Below w1.heap.size w1 w') := fun w1 hb => c_phBoth xss pss v u w1 hs hs2 (h.below hb) (hu.below hb)
  obtain ⟨A1, c1, rfl⟩ := hm.t.shape
  obtain ⟨A2, c2, rfl⟩ := hm.g.shape
  obtain ⟨A3, c3, rfl⟩ := hm.r.shape
  obtain ⟨A, c, rfl, _⟩ := h.shape
  obtain ⟨A9, c9, rfl, _⟩ := hu.shape
  have hls := hs.1
  have hls2 := hs2.1
  unfold psB
  rw [mdB_eq]
  clear hm h hu hs hs2
  generalize pitsB xss pss = R at *
  cases hmo : moB x y z ts gs rs
  · rw [hmo] at C
    rw [Bool.false_and, Bool.false_and]
    go_enter Try.func66, Try.ntmps66
    go_wp2_with fail
    refine C.out.mono ?_
    rintro e w1 ⟨rfl, hb⟩
    have HB1 := Lib.hid (HB0.out.trans (hb.mono HB0.out.size))
    clear hb
    go_wp2
    go_ret
    exact ⟨rfl, HB1.out⟩
  · rw [hmo] at C
    obtain ⟨g1, g2, g3, g4, g5, g6, g7, g8, g9, g10⟩ := good_box (mo_true hmo).1
    have C2 : Hid (∀ u, Calls Try.prog 89 #[.agg #[.int .i64 x, .int .i64 y, .int .i64 z]] u fun e w' => e = .returned (.int .i64 (x * y * z)) ∧ Below u.heap.size u w') := fun u => c_grCount x y z u (by omega) g2 (by omega) g4 (by omega) g6
    rw [Bool.true_and]
    clear hmo
    by_cases hq : (xss.length : Int) = x * y * z
    · have hq2 : decide ((xss.length : Int) = x * y * z) = true := decide_eq_true hq
      have hq3 : ((xss.length : Int) == x * y * z) = true := by rw [beq_iff_eq]; exact hq
      have HQ2 := Lib.hid hq2
      have HQ3 := Lib.hid hq3
      rw [hq2, Bool.true_and]
      clear hq hq2 hq3
      go_enter Try.func66, Try.ntmps66
      go_wp2_with fail
      refine C.out.mono ?_
      rintro e w1 ⟨rfl, hb⟩
      have HB1 := Lib.hid (HB0.out.trans (hb.mono HB0.out.size))
      have HX1 := Lib.hid (HX0.out.below hb)
      obtain ⟨x0, x1, x2, x3, x4, x5⟩ : _ ∧ _ ∧ _ ∧ _ ∧ _ ∧ _ := ⟨HX1.out.c0, HX1.out.c1, HX1.out.c2, HX1.out.c3, HX1.out.c4, HX1.out.c5⟩
      clear hb
      go_wp2_with fail
      refine (C2.out _).mono ?_
      rintro e w2 ⟨rfl, hb⟩
      have HB2 := Lib.hid (HB1.out.trans (hb.mono HB1.out.size))
      have hq3 := HQ3.out
      clear hb x0 x1 x2 x3 x4 x5
      go_wp2_with fail
      refine (C3.out _ HB2.out).mono ?_
      rintro e w3 ⟨rfl, hb⟩
      have HB3 := Lib.hid (HB2.out.trans (hb.mono HB2.out.size))
      clear hb
      go_wp2
      go_ret
      exact ⟨by first | rfl | simp, HB3.out⟩
    · have hq2 : decide ((xss.length : Int) = x * y * z) = false := decide_eq_false hq
      have hq3 : ((xss.length : Int) == x * y * z) = false := by rw [Bool.eq_false_iff, ne_eq, beq_iff_eq]; exact hq
      have HQ3 := Lib.hid hq3
      rw [hq2, Bool.false_and]
      clear hq2 hq3
      go_enter Try.func66, Try.ntmps66
      go_wp2_with fail
      refine C.out.mono ?_
      rintro e w1 ⟨rfl, hb⟩
      have HB1 := Lib.hid (HB0.out.trans (hb.mono HB0.out.size))
      have HX1 := Lib.hid (HX0.out.below hb)
      obtain ⟨x0, x1, x2, x3, x4, x5⟩ : _ ∧ _ ∧ _ ∧ _ ∧ _ ∧ _ := ⟨HX1.out.c0, HX1.out.c1, HX1.out.c2, HX1.out.c3, HX1.out.c4, HX1.out.c5⟩
      clear hb
      go_wp2_with fail
      refine (C2.out _).mono ?_
      rintro e w2 ⟨rfl, hb⟩
      have HB2 := Lib.hid (HB1.out.trans (hb.mono HB1.out.size))
      have hq3 := HQ3.out
      clear hb x0 x1 x2 x3 x4 x5
      go_wp2
      go_ret
      exact ⟨by first | rfl | simp, HB2.out⟩

set_option maxHeartbeats 8000000 in
set_option maxRecDepth 100000 in
theorem c_PhaseSumsS (x y z : Int) (v1 v2 v3 : Value) (ts gs rs : List Int) (xss pss : List (List Int)) (v u : Value) (w : World) (l1 : ts.length ≤ 4000000) (l2 : gs.length ≤ 4000000) (l3 : rs.length ≤ 4000000) (hs : ShortL xss) (hs2 : ShortL pss) (hm : Look w v1 v2 v3 ts gs rs) (h : SeenL w v xss) (hu : SeenL w u pss) :
    Calls Try.prog 35 #[.agg #[.int .i64 x, .int .i64 y, .int .i64 z, v1, v2, v3], v, u] w (GivesRows2 w (psA x y z ts gs rs xss pss) (psB x y z ts gs rs xss pss)) := by
  have HB0 : Hid (Below w.heap.size w (w.alloc (.cells #[.int .i64 x, .int .i64 y, .int .i64 z, v1, v2, v3] 52))) := (Below.refl _ _).alloc (Nat.le_refl _) _
  have HX0 : Hid (Box6 (w.alloc (.cells #[.int .i64 x, .int .i64 y, .int .i64 z, v1, v2, v3] 52)) w.heap.size x y z v1 v2 v3) := Box6.new w x y z v1 v2 v3 _
  obtain ⟨j0, hj0, hy0, hy1, hy2⟩ := info_parts list_info
  have HJ := Lib.hid hj0
  clear hj0
  have C0 := Lib.hid (c_phModel x y z v1 v2 v3 ts gs rs xss pss v u (w.alloc (.cells #[.int .i64 x, .int .i64 y, .int .i64 z, v1, v2, v3] 52)) l1 l2 l3 hs hs2 (hm.below HB0.out) (h.below HB0.out) (hu.below HB0.out))
  have C1 : Hid (∀ w1, pss.length ≤ 8 → Below w.heap.size w w1 → Calls Try.prog 50 #[u] w1 fun e w' => ∃ v, e = .returned v ∧ Rows w' w1.heap.size w'.heap.size v (phsL pss pss.length) ∧ Below w1.heap.size w1 w') := fun w1 hp hb => c_phPhases pss u w1 hp (fun k hk => by have := hs2.2 k hk; omega) (hu.below hb)
  have HMD := Lib.hid hm
  obtain ⟨A1, c1, rfl⟩ := hm.t.shape
  obtain ⟨A2, c2, rfl⟩ := hm.g.shape
  obtain ⟨A3, c3, rfl⟩ := hm.r.shape
  obtain ⟨A, c, rfl, _⟩ := h.shape
  obtain ⟨A9, c9, rfl, _⟩ := hu.shape
  clear hm h hu
  cases hps : psB x y z ts gs rs xss pss
  · have HL : Hid (psA x y z ts gs rs xss pss = []) := by show _ = _; unfold psA; rw [hps]; rfl
    rw [hps] at C0
    rw [HL.out]
    clear hs hs2 hps
    go_enter Try.func35, Try.ntmps35
    go_wp2_with fail
    refine C0.out.mono ?_
    rintro e w1 ⟨rfl, hb⟩
    have HB1 := Lib.hid (HB0.out.trans (hb.mono HB0.out.size))
    clear hb
    go_wp2
    go_ret2
    exact ⟨_, rfl, Rows.nil _ _ _, HB1.out⟩
  · have HL : Hid (psA x y z ts gs rs xss pss = suL ts gs pss pss.length) := by show _ = _; unfold psA; rw [hps]; rfl
    obtain ⟨hmo, hp⟩ : mdB x y z ts gs rs xss = true ∧ pitsB xss pss = true := by
      unfold psB at hps
      rwa [Bool.and_eq_true] at hps
    obtain ⟨n1, n2⟩ := pits_len hp
    have hN := arc_len (pits_arc hp)
    obtain ⟨n, hnn⟩ : ∃ n, pss.length = n := ⟨_, rfl⟩
    have CS : Hid (∀ (k : Nat) (q : Value) w1, k < n → Below w.heap.size w w1 → Seen w1 q (phL pss k) → Calls Try.prog 67 #[.agg #[.int .i64 x, .int .i64 y, .int .i64 z, .slice A1 ts.length c1, .slice A2 gs.length c2, .slice A3 rs.length c3], q] w1 fun e w' => e = .returned (.tuple #[.int .i64 (sumT ts (phL pss k)), .int .i64 (sumM ts gs (phL pss k))]) ∧ Below w1.heap.size w1 w') := fun k q w1 hk hb hq => by
      have hk' : k < pss.length := by omega
      have hr : risB xss.length (phL pss k) = true := less_ris _ (pit_ris (pits_at hp) hk')
      exact c_moSums x y z _ _ _ ts gs rs q (phL pss k) w1 l1 l2 (by have := (ph_short hp hk').2; omega) (HMD.out.below hb) hq (md_list hmo hr)
    have HPL : Hid (∀ k, k < n → (phL pss k).length ≤ 120) := fun k hk => (ph_short hp (by omega)).2
    have HAT : Hid (∀ k, k < n → (phsL pss n).getD k [] = phL pss k) := fun k hk => phs_at hk
    have HPN : Hid ((phsL pss n).length = n) := phs_len pss n
    have HN8 : Hid (n ≤ 8) := by show _ ≤ _; omega
    have HSU : Hid (∀ k, suL ts gs pss k ++ [[sumT ts (phL pss k), sumM ts gs (phL pss k)]] = suL ts gs pss (k + 1)) := fun k => (su_succ ts gs pss k).symm
    have HSL : Hid (∀ k, (suL ts gs pss k).length = k) := fun k => su_len ts gs pss k
    have HS0 : Hid (suL ts gs pss 0 = []) := rfl
    rw [hps] at C0
    rw [HL.out]
    rw [hnn] at C0 C1 ⊢
    clear hs hs2 hps hmo hp hnn HL n1 n2 hN
    generalize suL ts gs pss = O at *
    generalize phsL pss n = PH at *
    go_enter Try.func35, Try.ntmps35
    go_wp2_with fail
    refine C0.out.mono ?_
    rintro e w1 ⟨rfl, hb⟩
    have HB1 := Lib.hid (HB0.out.trans (hb.mono HB0.out.size))
    have HX1 := Lib.hid (HX0.out.below hb)
    clear hb
    go_wp2_with fail
    refine (C1.out w1 HN8.out HB1.out).mono ?_
    rintro e w2 ⟨q1, rfl, hr, hb⟩
    have HB2 := Lib.hid (HB1.out.trans (hb.mono HB1.out.size))
    have HX2 := Lib.hid (HX1.out.below hb)
    obtain ⟨A5, c5, rfl⟩ := hr.shape
    have HPH := Lib.hid hr.seen
    rw [HPN.out] at HPH ⊢
    clear hb hr
    go_wp2_with fail
    go_loopw [8, 21] (fun o i wr => ∃ (k : Nat), k ≤ n ∧ i = .int .i64 k ∧ Rows wr w2.heap.size wr.heap.size o (O k) ∧ Below w2.heap.size w2 wr) (fun _ i _ => n - (RowKit.intOf i).toNat)
    case atStart => exact ⟨0, Nat.zero_le _, rfl, by rw [HS0.out]; exact Rows.nil _ _ _, Below.refl _ _⟩
    case round =>
      obtain ⟨k, hk, rfl, hr, hb2⟩ := hrel
      have HBG := Lib.hid hb2
      obtain ⟨AO, CO, hso⟩ := hr.shape
      rw [HSL.out k] at hso
      subst hso
      have HR := Lib.hid hr
      clear hr hb2
      by_cases hlt : k < n
      · have HXr := HX2.out.below HBG.out
        obtain ⟨x0, x1, x2, x3, x4, x5⟩ : _ ∧ _ ∧ _ ∧ _ ∧ _ ∧ _ := ⟨HXr.c0, HXr.c1, HXr.c2, HXr.c3, HXr.c4, HXr.c5⟩
        have hps := HPH.out.below HBG.out
        obtain ⟨b, off, A', c', rfl, hbl, q0, hse⟩ := hps.at_ (k := k) (by rw [HPN.out]; exact hlt)
        rw [HAT.out k hlt] at q0 hse
        have HC1 := Lib.hid (CS.out k _ wr hlt (HB2.out.trans (HBG.out.mono HB2.out.size)) hse)
        have ON := Lib.hid (HSU.out k)
        have hlen : (O k).length = k := HSL.out k
        have hl1 := HPL.out k hlt
        have hk8 : k < 8 := by have := HN8.out; omega
        have b1 : (0 : Int) ≤ (k : Int) := by omega
        have b2 : (k : Int) < (n : Int) := by omega
        clear hps hse HXr
        generalize sumT ts (phL pss k) = S at *
        generalize sumM ts gs (phL pss k) = T at *
        generalize (phL pss k).length = mm at *
        have HLE := Lib.hid hlen
        clear hlen
        go_wp2_with fail
        refine HC1.out.mono ?_
        rintro e w3 ⟨rfl, hb3⟩
        have hs3z := hb3.size
        have HB3 := Lib.hid (HBG.out.trans (hb3.mono HBG.out.size))
        have HR3 := Lib.hid (HR.out.below hb3 (Nat.le_refl _))
        have hlen : (O k).length = k := HLE.out
        have HP := Lib.hid (row_pair w3 S T)
        have hal : Below w3.heap.size w3 (w3.alloc (.cells #[.int .i64 S, .int .i64 T] 3)) := (Below.refl _ w3).alloc (Nat.le_refl _) _
        have hsa : (w3.alloc (.cells #[.int .i64 S, .int .i64 T] 3)).heap.size = w3.heap.size + 1 := by simp
        have HRo := Lib.hid (HR3.out.below hal hs3z)
        have HBw := Lib.hid (HB3.out.trans (hal.mono HB3.out.size))
        have HRK := HP
        have hbr_ := Lib.hid HB3.out.size
        have hro_ : Hid (wr.heap.size ≤ (w3.alloc (.cells #[.int .i64 S, .int .i64 T] 3)).heap.size) := by show _ ≤ _; omega
        clear hal hb3 x0 x1 x2 x3 x4 x5 q0
        have hbb : Below (w3.alloc (.cells #[.int .i64 S, .int .i64 T] 3)).heap.size (w3.alloc (.cells #[.int .i64 S, .int .i64 T] 3)) ((w3.alloc (.cells #[.int .i64 S, .int .i64 T] 3)).alloc (.cells #[.slice (some ⟨w3.heap.size, 0, none⟩) 2 2] 35)) := (Below.refl _ _).alloc (Nat.le_refl _) _
        have HP6 := Lib.hid ((HRK.out.mono (Nat.le_trans hbr_.out (Nat.le_refl _))).below hbb)
        have HR6 := Lib.hid (HRo.out.below hbb hro_.out)
        have HB6 : Hid (Below w2.heap.size w2 ((w3.alloc (.cells #[.int .i64 S, .int .i64 T] 3)).alloc (.cells #[.slice (some ⟨w3.heap.size, 0, none⟩) 2 2] 35))) := HBw.out.trans (hbb.mono HBw.out.size)
        have hpo : Hid (∀ m, (Value.slice (some ⟨w3.heap.size, 0, none⟩) 2 2).ownBlock = some m → wr.heap.size ≤ m) := fun m hm => Nat.le_trans (hs3z) (World.ownsRow.lt HRK.out m hm).1
        clear hbb
        obtain ⟨vs, hv6⟩ := HR6.out
        have HV6 := Lib.hid hv6
        clear hv6
        have sz5 := HBw.out.size
        have HLN := Lib.hid hlen
        clear hlen
        have hown : Hid (((w3.alloc (.cells #[.int .i64 S, .int .i64 T] 3)).alloc (.cells #[.slice (some ⟨w3.heap.size, 0, none⟩) 2 2] 35)).ownsRow w2.heap.size 35 1 (.slice AO k CO) k vs) := by
          have := HV6.out.own
          rw [HLN.out] at this
          exact this
        go_wp2_with (at_builtin; refine wpList_append_own _ rfl _ _ 22 rfl w2.heap.size 35 j0 (.slice none 0 0) 1 24 Try.underlying22 HJ.out hy0 hy1 hy2 rfl (by decide) _ _ _ rfl hown.out ⟨w3.heap.size + 1, 0, none⟩ 1 1 [.slice (some ⟨w3.heap.size, 0, none⟩) 2 2] rfl rfl ?e1 ?e2 ?e3 ?e4 ?e5 ?_)
        case e1 =>
          intro q u hq
          match q, hq with
          | 0, hq => simp at hq; subst hq; simp [Addr.add]
        case e2 => intro u hu; simp at hu; subst hu; rfl
        case e3 => unfold maxLen; omega
        case e4 => omega
        case e5 => simp; omega
        intro v' w7 hown' hgrow _
        have N1 : Hid (Rows w7 w2.heap.size w7.heap.size v' _) := ⟨_, by
          have := HV6.out.push HP6.out (fun m hm => hpo.out m hm) (by rw [HLN.out]; exact hown') hgrow
          rw [ON.out] at this
          exact this⟩
        have NR := Lib.hid (World.ownsRow.kept HP6.out hgrow (HV6.out.apart_row HP6.out))
        have N2 : Hid (Below w2.heap.size w2 w7) := HB6.out.grown hgrow (by simp; omega) (fun g hg => (World.ownsRow.lt hown.out g hg).1)
        clear hown' hgrow
        go_wp2
        go_roundw
        case rel => exact ⟨k + 1, by omega, by go_num, N1.out, N2.out⟩
        case measure => simp [RowKit.intOf]; omega
      · obtain rfl : k = n := by omega
        go_wp2
        go_ret2
        exact ⟨_, rfl, HR.out.mono HB2.out.size, HB2.out.trans (HBG.out.mono HB2.out.size)⟩
end Go.Proofs.Ytlgbhemjckahhaa

namespace Go.Proofs.Ytlgbhemjckahhaa
open Go.RowKit
set_option linter.unusedVariables false

def Chain (w w' : World) (o1 o2 o3 : Option Nat) : Prop := ∃ w0 wa wb, Below w.heap.size w w0 ∧ w0.grownBy wa o1 ∧ wa.grownBy wb o2 ∧ wb.grownBy w' o3
theorem Chain.turned {w w' : World} {o1 o2 o3 : Option Nat} (h : Chain w w' o1 o2 o3) : Turned w w' o1 o2 o3 := by
  obtain ⟨w0, wa, wb, h0, h1, h2, h3⟩ := h
  exact Turned.of h0 h1 h2 h3
theorem Chain.block {w w' : World} {o1 o2 o3 : Option Nat} (h : Chain w w' o1 o2 o3) {k : Nat} (hk : k < w.heap.size) (n1 : o1 ≠ some k) (n2 : o2 ≠ some k) (n3 : o3 ≠ some k) : w'.heap[k]? = w.heap[k]? := by
  obtain ⟨w0, wa, wb, h0, h1, h2, h3⟩ := h
  have s0 := h0.size
  have s1 := h1.size
  have s2 := h2.size
  rw [h3.block k (by omega) (fun e => n3 e.symm), h2.block k (by omega) (fun e => n2 e.symm), h1.block k (by omega) (fun e => n1 e.symm), h0.block k hk]
theorem Box6.under {w w' : World} {b B : Nat} {x y z : Int} {v1 v2 v3 : Value} (h : Box6 w b x y z v1 v2 v3) (hb : Below B w w') (hB : b < B) : Box6 w' b x y z v1 v2 v3 :=
  ⟨Nat.lt_of_lt_of_le h.lt hb.size, by rw [hb.cell (p := ⟨b, 0, none⟩) hB]; exact h.c0, by rw [hb.cell (p := ⟨b, 1, none⟩) hB]; exact h.c1, by rw [hb.cell (p := ⟨b, 2, none⟩) hB]; exact h.c2,
    by rw [hb.cell (p := ⟨b, 3, none⟩) hB]; exact h.c3, by rw [hb.cell (p := ⟨b, 4, none⟩) hB]; exact h.c4, by rw [hb.cell (p := ⟨b, 5, none⟩) hB]; exact h.c5⟩
set_option maxHeartbeats 1000000 in
theorem c_markModelG (x y z : Int) (v1 v2 v3 : Value) (ts gs rs : List Int) (B : Nat) (k0 : Int) (w : World) (hl : ts.length + gs.length + rs.length ≤ 1048576) (hk0 : 0 ≤ k0) (hk1 : k0 ≤ 1000000) (h : Mod w B v1 v2 v3 ts gs rs) :
    Calls Try.prog 39 #[.agg #[.int .i64 x, .int .i64 y, .int .i64 z, v1, v2, v3], .int .i64 k0] w fun e w' => e = .returned (.int .i64 (k0 + ts.length + gs.length + rs.length)) ∧ Mod w' B v1 v2 v3 (marks k0 ts.length) (marks (k0 + ts.length) gs.length) (marks (k0 + ts.length + gs.length) rs.length) ∧ Chain w w' v1.ownBlock v2.ownBlock v3.ownBlock := by
  have H := Lib.hid h
  obtain ⟨A1, c1, rfl⟩ := h.t.shape
  obtain ⟨A2, c2, rfl⟩ := h.g.shape
  obtain ⟨A3, c3, rfl⟩ := h.r.shape
  clear h
  have HX0 : Hid (Box6 (w.alloc (.cells #[.int .i64 x, .int .i64 y, .int .i64 z, .slice A1 ts.length c1, .slice A2 gs.length c2, .slice A3 rs.length c3] 52)) w.heap.size x y z (.slice A1 ts.length c1) (.slice A2 gs.length c2) (.slice A3 rs.length c3)) := Box6.new _ _ _ _ _ _ _ _
  have HB0 : Hid (Below w.heap.size w (w.alloc (.cells #[.int .i64 x, .int .i64 y, .int .i64 z, .slice A1 ts.length c1, .slice A2 gs.length c2, .slice A3 rs.length c3] 52))) := (Below.refl _ _).alloc (Nat.le_refl _) _
  have n1 : Hid (∀ b, w.heap.size ≤ b → (Value.slice A1 ts.length c1).ownBlock ≠ some b) := fun b hb => own_ne' (fun k hk => (World.ownsRow.lt H.out.t k hk).2) hb
  have n2 : Hid (∀ b, w.heap.size ≤ b → (Value.slice A2 gs.length c2).ownBlock ≠ some b) := fun b hb => own_ne' (fun k hk => (World.ownsRow.lt H.out.g k hk).2) hb
  have n3 : Hid (∀ b, w.heap.size ≤ b → (Value.slice A3 rs.length c3).ownBlock ≠ some b) := fun b hb => own_ne' (fun k hk => (World.ownsRow.lt H.out.r k hk).2) hb
  go_enter Try.func39, Try.ntmps39
  go_wp2_with fail
  refine (c_markIntS ts _ B k0 _ (by omega) hk0 (by omega) (H.out.t.below HB0.out)).mono ?_
  rintro e w1 ⟨rfl, hr1, hg1⟩
  have HR1 := Lib.hid hr1
  have HG1 := Lib.hid hg1
  clear hr1 hg1
  have HX1 : Hid (Box6 w1 w.heap.size x y z (.slice A1 ts.length c1) (.slice A2 gs.length c2) (.slice A3 rs.length c3)) := HX0.out.grown HG1.out (n1.out _ (Nat.le_refl _))
  have GS1 : Hid (Row w1 B (.slice A2 gs.length c2) gs) := World.ownsRow.kept (H.out.g.below HB0.out) HG1.out H.out.tg.symm
  have RS1 : Hid (Row w1 B (.slice A3 rs.length c3) rs) := World.ownsRow.kept (H.out.r.below HB0.out) HG1.out H.out.tr.symm
  have d3 := HX1.out.c3
  have d4 := HX1.out.c4
  have d5 := HX1.out.c5
  go_wp2_with fail
  refine (c_markIntS gs _ B (k0 + ts.length) _ (by omega) (by omega) (by omega) GS1.out).mono ?_
  rintro e w2 ⟨rfl, hr2, hg2⟩
  have HR2 := Lib.hid hr2
  have HG2 := Lib.hid hg2
  clear hr2 hg2
  have HX2 : Hid (Box6 w2 w.heap.size x y z (.slice A1 ts.length c1) (.slice A2 gs.length c2) (.slice A3 rs.length c3)) := HX1.out.grown HG2.out (n2.out _ (Nat.le_refl _))
  have TS2 : Hid (Row w2 B (.slice A1 ts.length c1) (marks k0 ts.length)) := World.ownsRow.kept HR1.out HG2.out H.out.tg
  have RS2 : Hid (Row w2 B (.slice A3 rs.length c3) rs) := World.ownsRow.kept RS1.out HG2.out H.out.gr.symm
  have e3 := HX2.out.c3
  have e4 := HX2.out.c4
  have e5 := HX2.out.c5
  go_wp2_with fail
  refine (c_markIntS rs _ B (k0 + ts.length + gs.length) _ (by omega) (by omega) (by omega) RS2.out).mono ?_
  rintro e w3 ⟨rfl, hr3, hg3⟩
  have HR3 := Lib.hid hr3
  have HG3 := Lib.hid hg3
  clear hr3 hg3
  have TS3 : Hid (Row w3 B (.slice A1 ts.length c1) (marks k0 ts.length)) := World.ownsRow.kept TS2.out HG3.out H.out.tr
  have GS3 : Hid (Row w3 B (.slice A2 gs.length c2) (marks (k0 + ts.length) gs.length)) := World.ownsRow.kept HR2.out HG3.out H.out.gr
  go_wp2
  go_ret
  exact ⟨rfl, ⟨TS3.out, GS3.out, HR3.out, H.out.tg, H.out.tr, H.out.gr⟩, ⟨_, _, _, HB0.out, HG1.out, HG2.out, HG3.out⟩⟩

theorem Mod.drew {w : World} {B : Nat} {v1 v2 v3 : Value} {ts gs rs : List Int} (h : Mod w B v1 v2 v3 ts gs rs) : Mod w.drew B v1 v2 v3 ts gs rs := ⟨h.t.draws 1, h.g.draws 1, h.r.draws 1, h.tg, h.tr, h.gr⟩
theorem Chain.rows {w w' : World} {o1 o2 o3 : Option Nat} (h : Chain w w' o1 o2 o3) {B U : Nat} {v : Value} {xss : List (List Int)} (hr : Rows w B U v xss) (hU : U ≤ w.heap.size) (n : ∀ k, B ≤ k → k < U → o1 ≠ some k ∧ o2 ≠ some k ∧ o3 ≠ some k) : Rows w' B U v xss :=
  hr.stays fun k hk hu => by obtain ⟨a, b, c⟩ := n k hk hu; exact h.block (Nat.lt_of_lt_of_le hu hU) a b c
theorem out_lo {o1 o2 o3 : Option Nat} {L U : Nat} (h1 : ∀ k, o1 = some k → L ≤ k) (h2 : ∀ k, o2 = some k → L ≤ k) (h3 : ∀ k, o3 = some k → L ≤ k) (hU : U ≤ L) {k : Nat} (hk : k < U) : o1 ≠ some k ∧ o2 ≠ some k ∧ o3 ≠ some k :=
  ⟨fun e => by have := h1 k e; omega, fun e => by have := h2 k e; omega, fun e => by have := h3 k e; omega⟩
theorem out_hi {o1 o2 o3 : Option Nat} {H B : Nat} (h1 : ∀ k, o1 = some k → k < H) (h2 : ∀ k, o2 = some k → k < H) (h3 : ∀ k, o3 = some k → k < H) (hB : H ≤ B) {k : Nat} (hk : B ≤ k) : o1 ≠ some k ∧ o2 ≠ some k ∧ o3 ≠ some k :=
  ⟨fun e => by have := h1 k e; omega, fun e => by have := h2 k e; omega, fun e => by have := h3 k e; omega⟩
theorem Mod.top1 {w : World} {B : Nat} {v1 v2 v3 : Value} {ts gs rs : List Int} (h : Mod w B v1 v2 v3 ts gs rs) : ∀ k, v1.ownBlock = some k → k < w.heap.size := fun k hk => (World.ownsRow.lt h.t k hk).2
theorem Mod.top2 {w : World} {B : Nat} {v1 v2 v3 : Value} {ts gs rs : List Int} (h : Mod w B v1 v2 v3 ts gs rs) : ∀ k, v2.ownBlock = some k → k < w.heap.size := fun k hk => (World.ownsRow.lt h.g k hk).2
theorem Mod.top3 {w : World} {B : Nat} {v1 v2 v3 : Value} {ts gs rs : List Int} (h : Mod w B v1 v2 v3 ts gs rs) : ∀ k, v3.ownBlock = some k → k < w.heap.size := fun k hk => (World.ownsRow.lt h.r k hk).2
theorem ps_facts (x y z : Int) (ts gs rs : List Int) (xss pss : List (List Int)) : (psA x y z ts gs rs xss pss).length ≤ 1048576 ∧ Hid (Short (psA x y z ts gs rs xss pss)) ∧ totN (psA x y z ts gs rs xss pss) (psA x y z ts gs rs xss pss).length ≤ 1048576 := by
  unfold psA
  split
  · rename_i h
    unfold psB at h
    rw [Bool.and_eq_true] at h
    have hl := pits_len h.2
    refine rows_facts (by rw [su_len]; omega) fun k hk => ?_
    rw [su_len] at hk
    rw [su_at hk]
    simp
  · refine rows_facts (by simp) fun k hk => ?_
    simp at hk
end Go.Proofs.Ytlgbhemjckahhaa
