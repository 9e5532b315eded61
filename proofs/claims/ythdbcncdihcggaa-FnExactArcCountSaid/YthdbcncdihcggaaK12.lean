/-
  Contracts: the program's ArcsOf.
-/
import Derived.Test.YthdbcncdihcggaaK11
import Derived.Test.YthdbcncdihcggaaRB
namespace Go.Proofs.Ythdbcncdihcggaa
open Go.RowKit
set_option linter.unusedVariables false

theorem bool_info : (Try.prog.info? 4).map (fun i => (i.zero, i.size, i.bytes)) = some (some (.bool false), 1, 1) := by kernel_rfl
theorem rowB_new (w : World) (n : Nat) (hn : n ≤ maxLen) : RowB (w.alloc (.cells (madeCells #[.bool false] n) 4)) w.heap.size (.slice (some ⟨w.heap.size, 0, none⟩) n n) (List.replicate n false) := by
  have := World.ownsRow_lit (base := w.heap.size) (e := 4) (size := 1) w (madeCells #[.bool false] n) n (Nat.le_refl _) hn (by rw [size_madeCells]; simp)
  unfold RowB
  rw [List.length_replicate, show bools (List.replicate n false) = (madeCells #[.bool false] n).toList by rw [toList_madeCells_one]; simp [bools]]
  exact this
theorem RowB.mono {w : World} {B B' : Nat} {v : Value} {bs : List Bool} (h : RowB w B v bs) (hB : B' ≤ B) : RowB w B' v bs := World.ownsRow.mono h hB
/-- Marks turned leave lists of lists as they are. -/
theorem RowsV.by_marks {w w' : World} {B B' U : Nat} {v u : Value} {xss : List (List Int)} {vs : List Value} {bs : List Bool} (h : RowsV w B U v xss vs) (hb : RowB w B' u bs) (hg : w.grownBy w' u.ownBlock) : RowsV w' B U v xss vs := by
  have ne : ∀ {k : Nat}, u.ownBlock = some k → v.ownBlock ≠ some k := fun hk => own_types hb h.own (by decide) hk
  refine ⟨h.len, own_stays h.own fun k e => hg.block k (World.ownsRow.lt h.own k e).2 (fun e' => own_types h.own hb (by decide) e (by first | exact e' | exact e'.symm)), h.top, fun i hi => own_stays (h.row i hi) fun k e => hg.block k (World.ownsRow.lt (h.row i hi) k e).2 (fun e' => own_types (h.row i hi) hb (by decide) e (by first | exact e' | exact e'.symm)), h.rtop, h.apart⟩
theorem Rows.by_marks {w w' : World} {B B' U : Nat} {v u : Value} {xss : List (List Int)} {bs : List Bool} (h : Rows w B U v xss) (hb : RowB w B' u bs) (hg : w.grownBy w' u.ownBlock) : Rows w' B U v xss := by
  obtain ⟨vs, h⟩ := h
  exact ⟨vs, h.by_marks hb hg⟩

set_option maxHeartbeats 4000000 in
theorem c_ArcsOf (x y z : Int) (v1 v2 : Value) (ss : List Int) (tss : List (List Int)) (w : World) (l1 : ss.length ≤ 4000000) (l2 : ShortT tss) (h : LookS w v1 v2 ss tss) :
    Calls Try.prog 28 #[.agg #[.int .i64 x, .int .i64 y, .int .i64 z], .agg #[v1, v2]] w (GivesRows2 w (arcL x y z ss tss) (sloV x y z ss tss)) := by
  have H := Lib.hid h
  have CA := Lib.hid (fun (u : World) (hu : Below w.heap.size w u) => c_AreSlopes x y z v1 v2 ss tss u l1 l2 (h.below hu))
  obtain ⟨A1, c1, rfl, m1, _⟩ := h.s
  obtain ⟨A2, c2, rfl, m2⟩ := h.t.shape
  clear h m1 m2 l2
  have HX0 : Hid (Box3 ((w.alloc (.cells #[.int .i64 x, .int .i64 y, .int .i64 z] 38)).alloc (.cells #[.slice A1 ss.length c1, .slice A2 tss.length c2] 42)) w.heap.size x y z) := (Box3.new _ _ _ _ _).below ((Below.refl _ _).alloc (Nat.le_refl _) _)
  have HY0 : Hid (Mine2 ((w.alloc (.cells #[.int .i64 x, .int .i64 y, .int .i64 z] 38)).alloc (.cells #[.slice A1 ss.length c1, .slice A2 tss.length c2] 42)) (w.heap.size + 1) (.slice A1 ss.length c1) (.slice A2 tss.length c2)) := by
    have := Mine2.new (w.alloc (.cells #[.int .i64 x, .int .i64 y, .int .i64 z] 38)) (.slice A1 ss.length c1) (.slice A2 tss.length c2) 42
    simp at this
    exact this
  have HB0 : Hid (Below w.heap.size w ((w.alloc (.cells #[.int .i64 x, .int .i64 y, .int .i64 z] 38)).alloc (.cells #[.slice A1 ss.length c1, .slice A2 tss.length c2] 42))) := ((Below.refl _ _).alloc (Nat.le_refl _) _).alloc (by simp) _
  cases hs : sloV x y z ss tss
  · rw [hs] at CA
    rw [arc_no hs]
    clear hs
    go_enter Try.func28, Try.ntmps28
    go_wp2_with fail
    generalize ((w.alloc (.cells #[.int .i64 x, .int .i64 y, .int .i64 z] 38)).alloc (.cells #[.slice A1 ss.length c1, .slice A2 tss.length c2] 42)) = W at *
    refine (CA.out _ HB0.out).mono ?_
    rintro e w1 ⟨rfl, hb1⟩
    have HB1 : Hid (Below w.heap.size w w1) := HB0.out.trans (hb1.mono HB0.out.size)
    clear hb1
    go_wp2
    go_ret2
    exact ⟨_, rfl, Rows.nil _ _ _, HB1.out⟩
  · rw [hs] at CA
    rw [arc_yes hs]
    have hg := slo_good hs
    have HGd := Lib.hid hg
    obtain ⟨x1, x2, y1, y2, z1, z2, p1, p2, q1, q2⟩ := good_box hg.g
    have hn1 := hg.n1
    have hn2 := hg.n2
    have CC : Hid (∀ u, Calls Try.prog 61 #[.agg #[.int .i64 x, .int .i64 y, .int .i64 z]] u fun e w' => e = .returned (.int .i64 (blkN x y z : Nat)) ∧ Below u.heap.size u w') := fun u => by
      rw [← hg.n]
      exact c_countBlocks x y z u (by omega) x2 (by omega) y2 (by omega) z2
    obtain ⟨i0, hi0, hz0, hz1, hz2⟩ := info_parts list_info
    obtain ⟨j0, hj0, jz0, jz1, jz2⟩ := info_parts bool_info
    have HMA : Hid (∀ (n : Nat) (W : World), n ≤ 120 → (Instr.makeSlice 51 (.int .i64 (n : Int)) (.int .i64 (n : Int))).run Try.prog W = .ok (.slice (some ⟨W.heap.size, 0, none⟩) n n) (W.alloc (.cells (madeCells #[.slice none 0 0] n) 31))) := fun n W hn => by
      have := run_make (P := Try.prog) W 51 31 i0 (.slice none 0 0) Try.underlying51 hi0 hz0 .i64 .i64 (n : Int) (n : Int) (by omega) (by omega) (by rw [hz2]; omega) (by omega)
      simpa [hz1, Value.cells] using this
    have HMB : Hid (∀ (n : Nat) (W : World), n ≤ 120 → (Instr.makeSlice 82 (.int .i64 (n : Int)) (.int .i64 (n : Int))).run Try.prog W = .ok (.slice (some ⟨W.heap.size, 0, none⟩) n n) (W.alloc (.cells (madeCells #[.bool false] n) 4))) := fun n W hn => by
      have := run_make (P := Try.prog) W 82 4 j0 (.bool false) Try.underlying82 hj0 jz0 .i64 .i64 (n : Int) (n : Int) (by omega) (by omega) (by rw [jz2]; omega) (by omega)
      simpa [jz1, Value.cells] using this
    have CW : Hid (∀ (k g B : Nat) (u : World), RowB u B (.slice (some ⟨g, 0, none⟩) (blkN x y z) (blkN x y z)) (hitL x y z k (tmpL x y ss tss k) (blkN x y z) ((tmpL x y ss tss k).length / 3)) → Calls Try.prog 63 #[.slice (some ⟨g, 0, none⟩) (blkN x y z) (blkN x y z), .func (.func 64) #[] #[]] u (GivesRow u (arcRow x y z ss tss k))) := fun k g B u hr => by
      have := c_whereMarks (hitL x y z k (tmpL x y ss tss k) (blkN x y z) ((tmpL x y ss tss k).length / 3)) g (blkN x y z) B u (by rw [hitL_len]; omega) (by rw [hitL_len]; exact hr)
      rw [hitL_len, hitL_sel, ← arcRow_sel hg] at this
      exact this
    have CM : Hid (∀ (k g B : Nat) (u : World), k < blkN x y z → Below w.heap.size w u → w.heap.size ≤ B → RowB u B (.slice (some ⟨g, 0, none⟩) (blkN x y z) (blkN x y z)) (List.replicate (blkN x y z) false) → Calls Try.prog 62 #[.agg #[.int .i64 x, .int .i64 y, .int .i64 z], .agg #[.slice A1 ss.length c1, .slice A2 tss.length c2], .int .i64 k, .slice (some ⟨g, 0, none⟩) (blkN x y z) (blkN x y z)] u fun e w' => e = .returned (.tuple #[]) ∧ RowB w' B (.slice (some ⟨g, 0, none⟩) (blkN x y z) (blkN x y z)) (hitL x y z k (tmpL x y ss tss k) (blkN x y z) ((tmpL x y ss tss k).length / 3)) ∧ u.grownBy w' (some g)) := fun k g B u hk hu hB hr => c_markAbove x y z _ _ ss tss k g _ _ B w u hg hk rfl H.out hu hB (by rw [hitL_zero]; exact hr)
    have HLN : Hid (∀ k (j : Nat), (hitL x y z k (tmpL x y ss tss k) (blkN x y z) j).length = blkN x y z) := fun k j => hitL_len _ _ _ _ _ _ _
    have HA0 : Hid (stg (arcN x y z ss tss (blkN x y z)) 0 = List.replicate (blkN x y z) []) := by have := stg_zero (arcN x y z ss tss (blkN x y z)); rw [arcN_len] at this; exact this
    have HAl : Hid (∀ k, k ≤ blkN x y z → (stg (arcN x y z ss tss (blkN x y z)) k).length = blkN x y z) := fun k hk => by have := stg_len (arcN x y z ss tss (blkN x y z)) k (by rw [arcN_len]; exact hk); rw [arcN_len] at this; exact this
    have HAs : Hid (∀ k, k < blkN x y z → (stg (arcN x y z ss tss (blkN x y z)) k).set k (arcRow x y z ss tss k) = stg (arcN x y z ss tss (blkN x y z)) (k + 1)) := fun k hk => by have := stg_set (arcN x y z ss tss (blkN x y z)) k (by rw [arcN_len]; exact hk); rw [arcN_at _ _ _ _ _ hk] at this; exact this
    have HAe : Hid (stg (arcN x y z ss tss (blkN x y z)) (blkN x y z) = arcN x y z ss tss (blkN x y z)) := by have := stg_all (arcN x y z ss tss (blkN x y z)); rw [arcN_len] at this; exact this
    have HRl : Hid (∀ k, (arcRow x y z ss tss k).length ≤ 12) := fun k => arcRow_len hg k
    clear hg hi0 hz0 hz1 hz2 hj0 jz0 jz1 jz2 hs i0 j0
    generalize stg (arcN x y z ss tss (blkN x y z)) = M at *
    generalize arcN x y z ss tss (blkN x y z) = XS at *
    generalize arcRow x y z ss tss = AR at *
    obtain ⟨HT, hHT⟩ : ∃ HT : Nat → List Bool, (fun k => hitL x y z k (tmpL x y ss tss k) (blkN x y z) ((tmpL x y ss tss k).length / 3)) = HT := ⟨_, rfl⟩
    have hHT' : ∀ k, hitL x y z k (tmpL x y ss tss k) (blkN x y z) ((tmpL x y ss tss k).length / 3) = HT k := fun k => by rw [← hHT]
    have HHl : Hid (∀ k, (HT k).length = blkN x y z) := fun k => by rw [← hHT']; exact HLN.out k _
    simp only [hHT'] at CW CM
    clear hHT hHT' HLN
    generalize blkN x y z = N at *
    go_enter Try.func28, Try.ntmps28
    go_wp2_with fail
    generalize ((w.alloc (.cells #[.int .i64 x, .int .i64 y, .int .i64 z] 38)).alloc (.cells #[.slice A1 ss.length c1, .slice A2 tss.length c2] 42)) = W at *
    refine (CA.out _ HB0.out).mono ?_
    rintro e w1 ⟨rfl, hb1⟩
    have HB1 : Hid (Below w.heap.size w w1) := HB0.out.trans (hb1.mono HB0.out.size)
    have HX1 := Lib.hid (HX0.out.below hb1)
    have HY1 := Lib.hid (HY0.out.below hb1)
    clear hb1
    have x0 := HX1.out.c0
    have x1' := HX1.out.c1
    have x2' := HX1.out.c2
    go_wp2_with fail
    refine (CC.out _).mono ?_
    rintro e w2 ⟨rfl, hb2⟩
    have HB2 : Hid (Below w.heap.size w w2) := HB1.out.trans (hb2.mono HB1.out.size)
    have HX2 := Lib.hid (HX1.out.below hb2)
    have HY2 := Lib.hid (HY1.out.below hb2)
    clear hb2 x0 x1' x2'
    have hma := HMA.out N w2 hn2
    have hmb := HMB.out N (w2.alloc (.cells (madeCells #[.slice none 0 0] N) 31)) hn2
    have hA2 : Rows (w2.alloc (.cells (madeCells #[.slice none 0 0] N) 31)) w2.heap.size (w2.alloc (.cells (madeCells #[.slice none 0 0] N) 31)).heap.size (.slice (some ⟨w2.heap.size, 0, none⟩) N N) (M 0) := by rw [HA0.out]; exact rows_nils w2 N (by unfold maxLen; omega)
    have ba : Below w2.heap.size w2 (w2.alloc (.cells (madeCells #[.slice none 0 0] N) 31)) := (Below.refl _ _).alloc (Nat.le_refl _) _
    have bb : Below (w2.alloc (.cells (madeCells #[.slice none 0 0] N) 31)).heap.size (w2.alloc (.cells (madeCells #[.slice none 0 0] N) 31)) ((w2.alloc (.cells (madeCells #[.slice none 0 0] N) 31)).alloc (.cells (madeCells #[.bool false] N) 4)) := (Below.refl _ _).alloc (Nat.le_refl _) _
    have HA3 : Hid (Rows ((w2.alloc (.cells (madeCells #[.slice none 0 0] N) 31)).alloc (.cells (madeCells #[.bool false] N) 4)) w2.heap.size ((w2.alloc (.cells (madeCells #[.slice none 0 0] N) 31)).alloc (.cells (madeCells #[.bool false] N) 4)).heap.size (.slice (some ⟨w2.heap.size, 0, none⟩) N N) (M 0)) := by
      obtain ⟨vs, k⟩ := hA2.below bb (Nat.le_refl _)
      exact ⟨vs, k.len, k.own, fun j hj => Nat.lt_of_lt_of_le (k.top j hj) bb.size, k.row, fun i j hi hj => Nat.lt_of_lt_of_le (k.rtop i j hi hj) bb.size, k.apart⟩
    have HR3 : Hid (RowB ((w2.alloc (.cells (madeCells #[.slice none 0 0] N) 31)).alloc (.cells (madeCells #[.bool false] N) 4)) w2.heap.size (.slice (some ⟨w2.heap.size + 1, 0, none⟩) N N) (List.replicate N false)) := by
      have := rowB_new (w2.alloc (.cells (madeCells #[.slice none 0 0] N) 31)) N (by unfold maxLen; omega)
      simp at this
      exact this.mono (by omega)
    have HB3 : Hid (Below w2.heap.size w2 ((w2.alloc (.cells (madeCells #[.slice none 0 0] N) 31)).alloc (.cells (madeCells #[.bool false] N) 4))) := ba.trans (bb.mono ba.size)
    clear hA2 ba bb
    go_upto_region 6 with fail
    clear hma hmb
    generalize ((w2.alloc (.cells (madeCells #[.slice none 0 0] N) 31)).alloc (.cells (madeCells #[.bool false] N) 4)) = w3 at *
    have HX3 := Lib.hid (HX2.out.below HB3.out)
    have HY3 := Lib.hid (HY2.out.below HB3.out)
    have ox : Hid (w.heap.size + 1 < w2.heap.size) := HY2.out.lt
    go_wp2_with fail
    go_loopw [27] (fun i wr => ∃ k : Nat, k ≤ N ∧ i = .int .i64 k ∧ Rows wr w2.heap.size wr.heap.size (.slice (some ⟨w2.heap.size, 0, none⟩) N N) (M k) ∧ (∃ bs, bs.length = N ∧ RowB wr w2.heap.size (.slice (some ⟨w2.heap.size + 1, 0, none⟩) N N) bs) ∧ Below w2.heap.size w2 wr) (fun i _ => N - (intOf i).toNat)
    case atStart => exact ⟨0, Nat.zero_le _, rfl, HA3.out, ⟨_, by simp, HR3.out⟩, HB3.out⟩
    case round =>
      obtain ⟨k, hk, rfl, hra, ⟨bs, hbl, hrb⟩, hbw⟩ := hrel
      have HRA := Lib.hid hra
      have HRB := Lib.hid hrb
      have HB := Lib.hid hbw
      have HBl := Lib.hid hbl
      clear hra hrb hbw hbl
      by_cases hlt : k < N
      · have hcl : ∀ ty, (Builtin.clear_ #[82] ty #[.slice (some ⟨w2.heap.size + 1, 0, none⟩) N N]).run Try.prog wr = .ok (.tuple #[]) (wr.setCells (w2.heap.size + 1) 0 (List.replicate N (.bool false))) := fun ty => run_clear HBl.out.symm (by omega) HRB.out ty
        obtain ⟨rb1, gb1⟩ := RowB.clears N (bs := bs) 0 (by rw [HBl.out]; omega) HBl.out.symm HRB.out
        rw [List.take_zero, List.nil_append] at rb1
        have HC1 := Lib.hid rb1
        have HA1 := Lib.hid (HRA.out.by_marks HRB.out gb1)
        have HW1 : Hid (Below w2.heap.size w2 (wr.setCells (w2.heap.size + 1) 0 (List.replicate N (.bool false)))) := HB.out.grown gb1 HB.out.size (fun m hm => by simp at hm; omega)
        have HS1 : Hid (wr.heap.size ≤ (wr.setCells (w2.heap.size + 1) 0 (List.replicate N (.bool false))).heap.size) := gb1.size
        have b1 : (0 : Int) ≤ (k : Int) := by omega
        have b2 : (k : Int) < (N : Int) := by omega
        have HHk := Lib.hid (HHl.out k)
        have hlk : Hid ((M k).length = N) := HAl.out k hk
        have hset : Hid ((M k).set k (AR k) = M (k + 1)) := HAs.out k hlt
        have hrl := Lib.hid (HRl.out k)
        clear rb1 gb1
        have HXc := Lib.hid (HX3.out.c0)
        go_upto_region 10 with (simp only [hcl])
        clear hcl
        generalize (wr.setCells (w2.heap.size + 1) 0 (List.replicate N (.bool false))) = wb at *
        have HWb : Hid (Below w.heap.size w wb) := HB2.out.trans (HW1.out.mono HB2.out.size)
        have HXb := Lib.hid (HX2.out.below HW1.out)
        have HYb := Lib.hid (HY2.out.below HW1.out)
        have x0 := HXb.out.c0
        have x1' := HXb.out.c1
        have x2' := HXb.out.c2
        have y0 := HYb.out.c0
        have y1' := HYb.out.c1
        go_wp2_with fail
        refine (CM.out k _ _ _ hlt HWb.out HB2.out.size HC1.out).mono ?_
        rintro e w4 ⟨rfl, hr4, hg4⟩
        have HR4 := Lib.hid hr4
        have HA4 := Lib.hid (HA1.out.by_marks HC1.out hg4)
        have HW4 : Hid (Below w2.heap.size w2 w4) := HW1.out.grown hg4 HW1.out.size (fun m hm => by simp at hm; omega)
        have HS4 : Hid (wr.heap.size ≤ w4.heap.size) := Nat.le_trans HS1.out hg4.size
        clear hr4 hg4 x0 x1' x2' y0 y1'
        go_wp2_with fail
        refine (CW.out k _ _ _ HR4.out).mono ?_
        rintro e w5 ⟨p, rfl, hp, hb5⟩
        obtain ⟨PA, pc, hps⟩ := hp.shape
        subst hps
        have HP := Lib.hid hp
        have HA5 := Lib.hid (HA4.out.below hb5 HS4.out)
        have HR5 := Lib.hid (HR4.out.below hb5)
        have HW5 : Hid (Below w2.heap.size w2 w5) := HW4.out.trans (hb5.mono HW4.out.size)
        have hpo : Hid (∀ j, (Value.slice PA (AR k).length pc).ownBlock = some j → wr.heap.size ≤ j) := fun j hj => Nat.le_trans HS4.out (World.ownsRow.lt HP.out j hj).1
        have hpb : Hid (w2.heap.size ≤ w4.heap.size) := HW4.out.size
        clear hp hb5
        obtain ⟨vs, kv⟩ := HA5.out
        have r1 : w5.cell? ⟨w2.heap.size, k, none⟩ = some (vs.getD k (.slice none 0 0)) := by
          have hv := kv
          rw [← hlk.out] at hv
          exact hv.cell (by rw [hlk.out]; exact hlt)
        have hst := World.ownsRow.stored (by have hv := kv.own; rw [hlk.out] at hv; exact hv) k (.slice PA (AR k).length pc)
        have r2 : w5.frozen? ⟨w2.heap.size, k, none⟩ = false := by
          have hv := kv.own
          rw [hlk.out] at hv
          exact World.ownsRow.frozenAt hv k
        have N1 := Lib.hid (RowsV.put kv hlk.out.symm (by rw [hlk.out]; exact hlt) (HP.out.mono hpb.out) hpo.out)
        rw [hset.out] at N1
        have NB : Hid (Below w2.heap.size w2 (w5.setCell ⟨w2.heap.size, k, none⟩ (.slice PA (AR k).length pc))) := HW5.out.setCell (Nat.le_refl _) _
        have NR : Hid (RowB (w5.setCell ⟨w2.heap.size, k, none⟩ (.slice PA (AR k).length pc)) w2.heap.size (.slice (some ⟨w2.heap.size + 1, 0, none⟩) N N) (HT k)) := World.ownsRow.kept HR5.out hst.2 (.inr (by simp [Value.ownBlock]))
        clear kv hst
        generalize vs.getD k (.slice none 0 0) = zz at *
        generalize (AR k).length = arl at *
        go_wp2_with fail
        go_roundw
        case rel => exact ⟨k + 1, by omega, by go_num, ⟨_, N1.out⟩, ⟨_, HHk.out, NR.out⟩, NB.out⟩
        case measure => simp [intOf]; omega
      · obtain rfl : k = N := by omega
        have HF : Hid (Rows wr w.heap.size wr.heap.size (.slice (some ⟨w2.heap.size, 0, none⟩) k k) XS) := by rw [← HAe.out]; exact HRA.out.mono HB2.out.size
        have HFB : Hid (Below w.heap.size w wr) := HB2.out.trans (HB.out.mono HB2.out.size)
        go_wp2
        go_ret2
        exact ⟨_, rfl, HF.out, HFB.out⟩
end Go.Proofs.Ythdbcncdihcggaa
