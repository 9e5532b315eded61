/-
  Contracts: the program's SplitPiece.
-/
import Derived.Test.YthlclieifcbkjabV7
import Derived.Test.YthlclieifcbkjabQ8
namespace Go.Proofs.Ythlclieifcbkjab
open Go.RowKit
set_option linter.unusedVariables false

def metL (t m : Int) (ws : List Int) : List Int := if t = 0 then List.replicate ws.length 0 else shaL m (shaL t ws)
def splF (t m r : Int) (ws : List Int) (j : Nat) : Int × Int × Int := ((shaL t ws).getD j 0, (metL t m ws).getD j 0, r)
def splB (t m r : Int) (ws : List Int) : Bool := pieB t m r && wB ws
def splN (t m r : Int) (ws : List Int) : Nat := if splB t m r ws then ws.length else 0
def splL (t m r : Int) (ws : List Int) : List Int := if splB t m r ws then flat3 (splF t m r ws) ws.length else []
/-- A list of pieces and a bool. -/
def GivesP2 (w : World) (n : Nat) (xs : List Int) (b : Bool) (e : Ending) (w' : World) : Prop := ∃ v, e = .returned (.tuple #[v, .bool b]) ∧ RowP w' w.heap.size v n xs ∧ Below w.heap.size w w'
theorem RowP.nil (w : World) (B : Nat) : RowP w B (.slice none 0 0) 0 [] := World.ownsRow_nil _ _ _ _
theorem spl_no {t m r : Int} {ws : List Int} (h : pieB t m r = false ∨ wB ws = false) : splB t m r ws = false ∧ splN t m r ws = 0 ∧ splL t m r ws = [] := by
  have : splB t m r ws = false := by unfold splB; rcases h with h | h <;> rw [h] <;> simp
  exact ⟨this, by unfold splN; rw [this]; rfl, by unfold splL; rw [this]; rfl⟩
theorem spl_yes {t m r : Int} {ws : List Int} (h : pieB t m r = true) (h' : wB ws = true) : splB t m r ws = true ∧ splN t m r ws = ws.length ∧ splL t m r ws = flat3 (splF t m r ws) ws.length := by
  have : splB t m r ws = true := by unfold splB; rw [h, h']; rfl
  exact ⟨this, by unfold splN; rw [this]; rfl, by unfold splL; rw [this]; rfl⟩
theorem splN_le (t m r : Int) (ws : List Int) : splN t m r ws ≤ 1000000 := by
  unfold splN
  split
  · rename_i h
    unfold splB at h
    simp only [Bool.and_eq_true] at h
    have := w_true h.2
    omega
  · omega
/-- The tonnes' shares are weights in their turn. -/
theorem sha_again {t m r : Int} {ws : List Int} (hp : pieB t m r = true) (hw : wB ws = true) (h0 : ¬ t = 0) : (shaL t ws).length = ws.length ∧ Mild (shaL t ws) 10000 ∧ 0 < sumTo (shaL t ws) (shaL t ws).length := by
  obtain ⟨t0, t1, _, _, _, _⟩ := pie_true hp
  obtain ⟨n0, n1, hm, W0⟩ := w_true hw
  obtain ⟨hs, hb⟩ := shaL_ok (N := t) hm t0 (by omega) W0
  refine ⟨shaL_len t ws, fun j hj => ?_, by rw [shaL_len, hs]; omega⟩
  rw [shaL_len] at hj
  have := hb j hj
  omega
theorem metL_len (t m : Int) (ws : List Int) : (metL t m ws).length = ws.length := by
  unfold metL
  split
  · simp
  · rw [shaL_len, shaL_len]
theorem three_new (w : World) (a b c : Value) (T : TypeId) : (w.alloc (.cells #[a, b, c] T)).cell? ⟨w.heap.size, 2, none⟩ = some c ∧ (w.alloc (.cells #[a, b, c] T)).cell? ⟨w.heap.size, 1, none⟩ = some b ∧ (w.alloc (.cells #[a, b, c] T)).cell? ⟨w.heap.size, 0, none⟩ = some a := ⟨by simp, by simp, by simp⟩

set_option maxHeartbeats 8000000 in
set_option maxRecDepth 100000 in
theorem c_SplitPiece (t m r : Int) (ws : List Int) (v : Value) (w : World) (hl : ws.length ≤ 4000000) (h : Seen w v ws) :
    Calls Try.prog 20 #[.agg #[.int .i64 t, .int .i64 m, .int .i64 r], v] w (GivesP2 w (splN t m r ws) (splL t m r ws) (splB t m r ws)) := by
  have HB0 : Hid (Below w.heap.size w (w.alloc (.cells #[.int .i64 t, .int .i64 m, .int .i64 r] 40))) := (Below.refl _ _).alloc (Nat.le_refl _) _
  have C1 := Lib.hid (c_IsPiece t m r (w.alloc (.cells #[.int .i64 t, .int .i64 m, .int .i64 r] 40)))
  have C2 : Hid (∀ u, Below w.heap.size w u → Calls Try.prog 37 #[v] u fun e w' => e = .returned (.bool (wB ws)) ∧ u = w') := fun u hu => c_areWeights ws v u hl (h.below hu)
  by_cases hp : pieB t m r = true
  case neg =>
    have hp' : pieB t m r = false := by simpa using hp
    obtain ⟨e1, e2, e3⟩ := spl_no (ws := ws) (.inl hp')
    rw [e1, e2, e3]
    rw [hp'] at C1
    obtain ⟨A, c, rfl, _, _⟩ := h
    clear hp hp' e1 e2 e3
    go_enter Try.func20, Try.ntmps20
    go_wp2_with fail
    refine C1.out.mono ?_
    rintro e w1 ⟨rfl, hb1⟩
    have HB1 : Hid (Below w.heap.size w w1) := HB0.out.trans (hb1.mono HB0.out.size)
    clear hb1
    go_wp2
    go_ret2
    exact ⟨.slice none 0 0, rfl, RowP.nil _ _, HB1.out⟩
  case pos =>
  rw [hp] at C1
  by_cases hw : wB ws = true
  case neg =>
    have hw' : wB ws = false := by simpa using hw
    obtain ⟨e1, e2, e3⟩ := spl_no (t := t) (m := m) (r := r) (.inr hw')
    rw [e1, e2, e3]
    rw [hw'] at C2
    obtain ⟨A, c, rfl, _, _⟩ := h
    clear hw hw' e1 e2 e3 hp
    go_enter Try.func20, Try.ntmps20
    go_wp2_with fail
    refine C1.out.mono ?_
    rintro e w1 ⟨rfl, hb1⟩
    have HB1 : Hid (Below w.heap.size w w1) := HB0.out.trans (hb1.mono HB0.out.size)
    clear hb1
    go_wp2_with fail
    refine (C2.out w1 HB1.out).mono ?_
    rintro e w2 ⟨rfl, rfl⟩
    go_wp2
    go_ret2
    exact ⟨.slice none 0 0, rfl, RowP.nil _ _, HB1.out⟩
  case pos =>
    rw [hw] at C2
    obtain ⟨t0, t1, m0, m1, _, _⟩ := pie_true hp
    obtain ⟨n0, n20, hm, W0⟩ := w_true hw
    obtain ⟨e1, e2, e3⟩ := spl_yes hp hw
    rw [e1, e2, e3]
    have CT : Hid (∀ u, Below w.heap.size w u → Calls Try.prog 38 #[.int .i64 t, v] u (GivesRow u (shaL t ws))) := fun u hu => c_sharesOf t ws v u n20 n0 hm t0 (by omega) W0 (h.below hu)
    have CM : Hid (¬ t = 0 → ∀ (p : Value) (u : World), Seen u p (shaL t ws) → Calls Try.prog 38 #[.int .i64 m, p] u (GivesRow u (metL t m ws))) := fun ht p u hu => by
      obtain ⟨a1, a2, a3⟩ := sha_again hp hw ht
      unfold metL
      rw [if_neg ht]
      exact c_sharesOf m (shaL t ws) p u (by omega) (by omega) a2 m0 (by omega) a3 hu
    have HZ : Hid (t = 0 → metL t m ws = List.replicate ws.length 0) := fun ht => by unfold metL; rw [if_pos ht]
    have HTl : Hid ((shaL t ws).length = ws.length) := shaL_len t ws
    have HMl : Hid ((metL t m ws).length = ws.length) := metL_len t m ws
    obtain ⟨i0, hi0, hz0, hz1, hz2⟩ := info_parts int_info
    have hmk : ∀ u : World, (Instr.makeSlice 24 (.int .i64 (ws.length : Int)) (.int .i64 (ws.length : Int))).run Try.prog u = .ok (.slice (some ⟨u.heap.size, 0, none⟩) ws.length ws.length) (u.alloc (.cells (madeCells #[.int .i64 0] ws.length) 3)) := fun u => by
      have := run_make (P := Try.prog) u 24 3 i0 (.int .i64 0) Try.underlying24 hi0 hz0 .i64 .i64 (ws.length : Int) (ws.length : Int) (by omega) (by omega) (by rw [hz2]; omega) (by omega)
      simpa [hz1, Value.cells] using this
    obtain ⟨j0, hj0, jz0, jz1, jz2⟩ := info_parts piece_info
    have hmp : ∀ u : World, (Instr.makeSlice 27 (.int .i64 (ws.length : Int)) (.int .i64 (ws.length : Int))).run Try.prog u = .ok (.slice (some ⟨u.heap.size, 0, none⟩) ws.length ws.length) (u.alloc (.cells (madeCells #[.int .i64 0, .int .i64 0, .int .i64 0] (ws.length * 3)) 40)) := fun u => by
      have := run_make (P := Try.prog) u 27 40 j0 (.agg #[.int .i64 0, .int .i64 0, .int .i64 0]) Try.underlying27 hj0 jz0 .i64 .i64 (ws.length : Int) (ws.length : Int) (by omega) (by omega) (by rw [jz2]; omega) (by omega)
      simpa [jz1, Value.cells] using this
    have HZr : Hid (∀ u : World, Row (u.alloc (.cells (madeCells #[.int .i64 0] ws.length) 3)) u.heap.size (.slice (some ⟨u.heap.size, 0, none⟩) ws.length ws.length) (List.replicate ws.length 0)) := fun u => row_zeros u _ (by unfold maxLen; omega)
    have HXl := flat3_len (splF t m r ws) ws.length
    have HP0 : Hid (∀ u : World, RowP (u.alloc (.cells (madeCells #[.int .i64 0, .int .i64 0, .int .i64 0] (ws.length * 3)) 40)) u.heap.size (.slice (some ⟨u.heap.size, 0, none⟩) ws.length ws.length) ws.length (half (flat3 (splF t m r ws) ws.length) 0)) := fun u => by rw [half_zero, HXl]; exact rowP_zeros u _ (by unfold maxLen; omega)
    have HSt : Hid (∀ j, j < ws.length * 3 → (half (flat3 (splF t m r ws) ws.length) j).set j ((flat3 (splF t m r ws) ws.length).getD j 0) = half (flat3 (splF t m r ws) ws.length) (j + 1)) := fun j hj => half_set _ j (by omega)
    have HA : Hid (half (flat3 (splF t m r ws) ws.length) (ws.length * 3) = flat3 (splF t m r ws) ws.length) := by show _ = _; rw [← HXl]; exact half_all _
    have HAt : Hid (∀ k, k < ws.length → (flat3 (splF t m r ws) ws.length).getD (k * 3) 0 = (shaL t ws).getD k 0 ∧ (flat3 (splF t m r ws) ws.length).getD (k * 3 + 1) 0 = (metL t m ws).getD k 0 ∧ (flat3 (splF t m r ws) ws.length).getD (k * 3 + 2) 0 = r) := fun k hk => flat3_at (splF t m r ws) ws.length hk
    obtain ⟨A, c, rfl, _, _⟩ := h
    clear hp hw e1 e2 e3 hm W0 hi0 hj0 HXl m1
    generalize metL t m ws = M at *
    generalize shaL t ws = T at *
    generalize hX : flat3 (splF t m r ws) ws.length = X at *
    clear hX
    generalize half X = HF at *
    generalize ws.length = n at *
    go_enter Try.func20, Try.ntmps20
    go_wp2_with fail
    refine C1.out.mono ?_
    rintro e w1 ⟨rfl, hb1⟩
    have HB1 : Hid (Below w.heap.size w w1) := HB0.out.trans (hb1.mono HB0.out.size)
    obtain ⟨d2, d1, d0⟩ := three_new w (.int .i64 t) (.int .i64 m) (.int .i64 r) 40
    have hlt : w.heap.size < (w.alloc (.cells #[.int .i64 t, .int .i64 m, .int .i64 r] 40)).heap.size := by simp
    have KK : Hid (∀ u, Below (w.heap.size + 1) w1 u → Below w.heap.size w u ∧ w.heap.size < u.heap.size ∧ u.cell? ⟨w.heap.size, 0, none⟩ = some (.int .i64 t) ∧ u.cell? ⟨w.heap.size, 1, none⟩ = some (.int .i64 m) ∧ u.cell? ⟨w.heap.size, 2, none⟩ = some (.int .i64 r)) := fun u hu => by
      have s1 := hb1.size
      have s2 := hu.size
      have e : ∀ o, u.cell? ⟨w.heap.size, o, none⟩ = (w.alloc (.cells #[.int .i64 t, .int .i64 m, .int .i64 r] 40)).cell? ⟨w.heap.size, o, none⟩ := fun o => by
        rw [hu.cell (p := ⟨w.heap.size, o, none⟩) (by show w.heap.size < _; omega), hb1.cell (p := ⟨w.heap.size, o, none⟩) hlt]
      exact ⟨HB1.out.trans (hu.mono (by omega)), by omega, by rw [e]; exact d0, by rw [e]; exact d1, by rw [e]; exact d2⟩
    have s1 : w.heap.size + 1 ≤ w1.heap.size := by have := hb1.size; simp at this; omega
    clear hb1 d0 d1 d2 hlt
    obtain ⟨_, _, d0, d1, d2⟩ := KK.out w1 (Below.refl _ _)
    go_wp2_with fail
    refine (C2.out w1 HB1.out).mono ?_
    rintro e w2 ⟨rfl, rfl⟩
    go_wp2_with fail
    refine (CT.out w1 HB1.out).mono ?_
    rintro e w2 ⟨tv, rfl, ht2, hb2⟩
    have HT2 := Lib.hid ht2
    have HV2 : Hid (Below (w.heap.size + 1) w1 w2) := hb2.mono s1
    obtain ⟨_, z2, d0, d1, d2⟩ := KK.out w2 HV2.out
    have s2 := hb2.size
    clear ht2 hb2
    obtain ⟨gt, ct, rfl, _, hgt⟩ := HT2.out.form (by rw [HTl.out]; exact n0)
    rw [HTl.out]
    have HMk := Lib.hid hmk
    have HMp := Lib.hid hmp
    clear hmk hmp
    by_cases ht : t = 0
    · have hM := HZ.out ht
      subst ht
      have hk2 := HMk.out w2
      have HR3 := Lib.hid (HZr.out w2)
      rw [← hM] at HR3
      have HV3 : Hid (Below (w.heap.size + 1) w1 (w2.alloc (.cells (madeCells #[.int .i64 0] n) 3))) := HV2.out.alloc (by omega) _
      have HT3 := Lib.hid (HT2.out.below (w' := w2.alloc (.cells (madeCells #[.int .i64 0] n) 3)) ((Below.refl _ _).alloc (Nat.le_refl _) _))
      obtain ⟨_, z3, e0, e1, e2⟩ := KK.out _ HV3.out
      have s3 : w2.heap.size < (w2.alloc (.cells (madeCells #[.int .i64 0] n) 3)).heap.size := by simp
      have hk3 := HMp.out (w2.alloc (.cells (madeCells #[.int .i64 0] n) 3))
      go_wp2_with fail
      clear hk2 hk3
      have hz3 : (w2.alloc (.cells (madeCells #[.int .i64 0] n) 3)).heap.size = w2.heap.size + 1 := by simp
      rw [← hz3]
      generalize w2.alloc (.cells (madeCells #[.int .i64 0] n) 3) = w3 at *
      generalize w2.heap.size = gm at *
      clear hz3
      have H0 := Lib.hid (HP0.out w3)
      have HB4 : Hid (Below w3.heap.size w3 (w3.alloc (.cells (madeCells #[.int .i64 0, .int .i64 0, .int .i64 0] (n * 3)) 40))) := (Below.refl _ _).alloc (Nat.le_refl _) _
      have KW : Hid (∀ u, Below w3.heap.size w3 u → Below w.heap.size w u ∧ w.heap.size < u.heap.size ∧ u.cell? ⟨w.heap.size, 2, none⟩ = some (.int .i64 r) ∧ (∀ k, k < n → u.cell? ⟨gt, k, none⟩ = some (.int .i64 (T.getD k 0))) ∧ (∀ k, k < n → u.cell? ⟨gm, k, none⟩ = some (.int .i64 (M.getD k 0)))) := fun u hu => by
        obtain ⟨y1, y2, _, _, y3⟩ := KK.out u (HV3.out.trans (hu.mono (by omega)))
        have yt : Row u _ _ T := HT3.out.below hu
        have ym : Row u _ _ M := HR3.out.below hu
        exact ⟨y1, y2, y3, fun k hk => yt.cell k (by rw [HTl.out]; exact hk), fun k hk => by rw [← HMl.out] at ym hk; exact ym.cell k hk⟩
      have hs4 : w3.heap.size < (w3.alloc (.cells (madeCells #[.int .i64 0, .int .i64 0, .int .i64 0] (n * 3)) 40)).heap.size := by simp
      go_loopw [37] (fun i wr => ∃ k : Nat, k ≤ n ∧ i = .int .i64 k ∧ RowP wr w3.heap.size (.slice (some ⟨w3.heap.size, 0, none⟩) n n) n (HF (k * 3)) ∧ Below w3.heap.size w3 wr ∧ w3.heap.size < wr.heap.size) (fun i _ => n - (intOf i).toNat)
      case atStart => exact ⟨0, Nat.zero_le _, rfl, by simpa using H0.out, HB4.out, hs4⟩
      case round =>
        obtain ⟨k, hk, rfl, hr, hb, hs⟩ := hrel
        have HR := Lib.hid hr
        have HB := Lib.hid hb
        clear hr hb
        by_cases hlt : k < n
        · obtain ⟨_, zz, y3, yt, ym⟩ := KW.out wr HB.out
          have q0 := yt k hlt
          have q1 := ym k hlt
          clear yt ym
          obtain ⟨a0, a1, a2⟩ := HAt.out k hlt
          have S1 : Hid ((HF (k * 3)).set (k * 3) (X.getD (k * 3) 0) = HF (k * 3 + 1)) := HSt.out _ (by omega)
          have S2 : Hid ((HF (k * 3 + 1)).set (k * 3 + 1) (X.getD (k * 3 + 1) 0) = HF (k * 3 + 1 + 1)) := HSt.out _ (by omega)
          have S3 : Hid ((HF (k * 3 + 1 + 1)).set (k * 3 + 1 + 1) (X.getD (k * 3 + 1 + 1) 0) = HF (k * 3 + 1 + 1 + 1)) := HSt.out _ (by omega)
          have e3 : Hid (HF (k * 3 + 1 + 1 + 1) = HF ((k + 1) * 3)) := by unfold Hid; congr 1; omega
          rw [show k * 3 + 1 + 1 = k * 3 + 2 from rfl] at S2 S3
          rw [a0] at S1
          rw [a1] at S2
          rw [a2] at S3
          generalize T.getD k 0 = tk at *
          generalize M.getD k 0 = mk at *
          clear a0 a1 a2
          have b1 : (0 : Int) ≤ (k : Int) := by omega
          have b2 : (k : Int) < (n : Int) := by omega
          have N1 := Lib.hid (HR.out.set_ (k * 3) tk).1
          rw [S1.out] at N1
          have N2 := Lib.hid (N1.out.set_ (k * 3 + 1) mk).1
          rw [S2.out] at N2
          have N3 := Lib.hid (N2.out.set_ (k * 3 + 2) r).1
          rw [S3.out, e3.out] at N3
          have NB : Hid (Below w3.heap.size w3 (((wr.setCell ⟨w3.heap.size, k * 3, none⟩ (.int .i64 tk)).setCell ⟨w3.heap.size, k * 3 + 1, none⟩ (.int .i64 mk)).setCell ⟨w3.heap.size, k * 3 + 2, none⟩ (.int .i64 r))) := ((HB.out.setCell (Nat.le_refl _) _).setCell (Nat.le_refl _) _).setCell (Nat.le_refl _) _
          have p0 := HR.out.cell (k * 3) (by omega)
          have p1 := HR.out.cell (k * 3 + 1) (by omega)
          have p2 := HR.out.cell (k * 3 + 2) (by omega)
          have f0 := HR.out.frozen (k * 3)
          have f1 := HR.out.frozen (k * 3 + 1)
          have f2 := HR.out.frozen (k * 3 + 2)
          generalize (HF (k * 3)).getD (k * 3) 0 = y0 at *
          generalize (HF (k * 3)).getD (k * 3 + 1) 0 = y1 at *
          generalize (HF (k * 3)).getD (k * 3 + 2) 0 = y2 at *
          go_wp2_with fail
          go_region
          go_wp2
          go_roundw
          case rel => exact ⟨k + 1, by omega, by go_num, N3.out.draws 1, NB.out.drew, by simpa using hs⟩
          case measure => simp [intOf]; omega
        · obtain rfl : k = n := by omega
          obtain ⟨y1, _⟩ := KW.out wr HB.out
          have HY1 := Lib.hid y1
          have hge : w.heap.size ≤ w3.heap.size := by omega
          have HGe := Lib.hid hge
          clear y1
          go_wp2
          go_ret2
          exact ⟨.slice (some ⟨w3.heap.size, 0, none⟩) k k, rfl, by have := HR.out; rw [HA.out] at this; exact this.mono HGe.out, HY1.out⟩
    · have hk2 := HMk.out w2
      have HV2a : Hid (Below (w.heap.size + 1) w1 (w2.alloc (.cells (madeCells #[.int .i64 0] n) 3))) := HV2.out.alloc (by omega) _
      have HT2a := Lib.hid (HT2.out.below (w' := w2.alloc (.cells (madeCells #[.int .i64 0] n) 3)) ((Below.refl _ _).alloc (Nat.le_refl _) _))
      have HSe := Lib.hid HT2a.out.seen
      rw [HTl.out] at HSe
      obtain ⟨_, z2a, e0, e1, e2⟩ := KK.out _ HV2a.out
      have tpos : 0 < t := by omega
      go_wp2_with fail
      clear hk2 e0 e1 e2 d0 d1 d2
      generalize w2.alloc (.cells (madeCells #[.int .i64 0] n) 3) = wa at *
      refine (CM.out ht _ wa HSe.out).mono ?_
      rintro e w3 ⟨mv, rfl, hm3, hb3⟩
      obtain ⟨gm, cm, rfl, _, hgm⟩ := hm3.form (by rw [HMl.out]; exact n0)
      rw [HMl.out] at hm3 ⊢
      have HR3 := Lib.hid hm3
      have HT3 := Lib.hid (HT2a.out.below hb3)
      have HV3 : Hid (Below (w.heap.size + 1) w1 w3) := HV2a.out.trans (hb3.mono (by have := HV2a.out.size; omega))
      clear hm3 hb3
      obtain ⟨_, z3, e0, e1, e2⟩ := KK.out _ HV3.out
      have hk3 := HMp.out w3
      go_wp2_with fail
      clear hk3
      have H0 := Lib.hid (HP0.out w3)
      have HB4 : Hid (Below w3.heap.size w3 (w3.alloc (.cells (madeCells #[.int .i64 0, .int .i64 0, .int .i64 0] (n * 3)) 40))) := (Below.refl _ _).alloc (Nat.le_refl _) _
      have KW : Hid (∀ u, Below w3.heap.size w3 u → Below w.heap.size w u ∧ w.heap.size < u.heap.size ∧ u.cell? ⟨w.heap.size, 2, none⟩ = some (.int .i64 r) ∧ (∀ k, k < n → u.cell? ⟨gt, k, none⟩ = some (.int .i64 (T.getD k 0))) ∧ (∀ k, k < n → u.cell? ⟨gm, k, none⟩ = some (.int .i64 (M.getD k 0)))) := fun u hu => by
        obtain ⟨y1, y2, _, _, y3⟩ := KK.out u (HV3.out.trans (hu.mono (by omega)))
        have yt : Row u _ _ T := HT3.out.below hu
        have ym : Row u _ _ M := HR3.out.below hu
        exact ⟨y1, y2, y3, fun k hk => yt.cell k (by rw [HTl.out]; exact hk), fun k hk => by rw [← HMl.out] at ym hk; exact ym.cell k hk⟩
      have hs4 : w3.heap.size < (w3.alloc (.cells (madeCells #[.int .i64 0, .int .i64 0, .int .i64 0] (n * 3)) 40)).heap.size := by simp
      go_loopw [37] (fun i wr => ∃ k : Nat, k ≤ n ∧ i = .int .i64 k ∧ RowP wr w3.heap.size (.slice (some ⟨w3.heap.size, 0, none⟩) n n) n (HF (k * 3)) ∧ Below w3.heap.size w3 wr ∧ w3.heap.size < wr.heap.size) (fun i _ => n - (intOf i).toNat)
      case atStart => exact ⟨0, Nat.zero_le _, rfl, by simpa using H0.out, HB4.out, hs4⟩
      case round =>
        obtain ⟨k, hk, rfl, hr, hb, hs⟩ := hrel
        have HR := Lib.hid hr
        have HB := Lib.hid hb
        clear hr hb
        by_cases hlt : k < n
        · obtain ⟨_, zz, y3, yt, ym⟩ := KW.out wr HB.out
          have q0 := yt k hlt
          have q1 := ym k hlt
          clear yt ym
          obtain ⟨a0, a1, a2⟩ := HAt.out k hlt
          have S1 : Hid ((HF (k * 3)).set (k * 3) (X.getD (k * 3) 0) = HF (k * 3 + 1)) := HSt.out _ (by omega)
          have S2 : Hid ((HF (k * 3 + 1)).set (k * 3 + 1) (X.getD (k * 3 + 1) 0) = HF (k * 3 + 1 + 1)) := HSt.out _ (by omega)
          have S3 : Hid ((HF (k * 3 + 1 + 1)).set (k * 3 + 1 + 1) (X.getD (k * 3 + 1 + 1) 0) = HF (k * 3 + 1 + 1 + 1)) := HSt.out _ (by omega)
          have e3 : Hid (HF (k * 3 + 1 + 1 + 1) = HF ((k + 1) * 3)) := by unfold Hid; congr 1; omega
          rw [show k * 3 + 1 + 1 = k * 3 + 2 from rfl] at S2 S3
          rw [a0] at S1
          rw [a1] at S2
          rw [a2] at S3
          generalize T.getD k 0 = tk at *
          generalize M.getD k 0 = mk at *
          clear a0 a1 a2
          have b1 : (0 : Int) ≤ (k : Int) := by omega
          have b2 : (k : Int) < (n : Int) := by omega
          have N1 := Lib.hid (HR.out.set_ (k * 3) tk).1
          rw [S1.out] at N1
          have N2 := Lib.hid (N1.out.set_ (k * 3 + 1) mk).1
          rw [S2.out] at N2
          have N3 := Lib.hid (N2.out.set_ (k * 3 + 2) r).1
          rw [S3.out, e3.out] at N3
          have NB : Hid (Below w3.heap.size w3 (((wr.setCell ⟨w3.heap.size, k * 3, none⟩ (.int .i64 tk)).setCell ⟨w3.heap.size, k * 3 + 1, none⟩ (.int .i64 mk)).setCell ⟨w3.heap.size, k * 3 + 2, none⟩ (.int .i64 r))) := ((HB.out.setCell (Nat.le_refl _) _).setCell (Nat.le_refl _) _).setCell (Nat.le_refl _) _
          have p0 := HR.out.cell (k * 3) (by omega)
          have p1 := HR.out.cell (k * 3 + 1) (by omega)
          have p2 := HR.out.cell (k * 3 + 2) (by omega)
          have f0 := HR.out.frozen (k * 3)
          have f1 := HR.out.frozen (k * 3 + 1)
          have f2 := HR.out.frozen (k * 3 + 2)
          generalize (HF (k * 3)).getD (k * 3) 0 = y0 at *
          generalize (HF (k * 3)).getD (k * 3 + 1) 0 = y1 at *
          generalize (HF (k * 3)).getD (k * 3 + 2) 0 = y2 at *
          go_wp2_with fail
          go_region
          go_wp2
          go_roundw
          case rel => exact ⟨k + 1, by omega, by go_num, N3.out.draws 1, NB.out.drew, by simpa using hs⟩
          case measure => simp [intOf]; omega
        · obtain rfl : k = n := by omega
          obtain ⟨y1, _⟩ := KW.out wr HB.out
          have HY1 := Lib.hid y1
          have hge : w.heap.size ≤ w3.heap.size := by omega
          have HGe := Lib.hid hge
          clear y1
          go_wp2
          go_ret2
          exact ⟨.slice (some ⟨w3.heap.size, 0, none⟩) k k, rfl, by have := HR.out; rw [HA.out] at this; exact this.mono HGe.out, HY1.out⟩
end Go.Proofs.Ythlclieifcbkjab
