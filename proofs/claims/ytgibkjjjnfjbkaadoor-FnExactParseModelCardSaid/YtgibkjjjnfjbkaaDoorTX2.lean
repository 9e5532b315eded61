/-
  Contracts: ModelText, in the model and in the program.
-/
import Derived.Test.YtgibkjjjnfjbkaaDoorTX1
import Derived.Test.YtgibkjjjnfjbkaaDoorTX0
import Derived.Test.YtgibkjjjnfjbkaaDoorM6
import Derived.Test.YtgibkjjjnfjbkaaDoorShelfT
namespace Go.Proofs.YtgibkjjjnfjbkaaDoor
open Go.RowKit
set_option linter.unusedVariables false

/-- The first line of a model's text. -/
def mtH (x y z : Int) : ByteArray := ⟨#[109, 111, 100, 101, 108, 32]⟩ ++ tri3 x y z ⟨#[120]⟩ ++ ⟨#[10]⟩
/-- The line of block k. -/
def mtR (ts gs rs : List Int) (k : Nat) : ByteArray := tri3 (ts.getD k 0) (gs.getD k 0) (rs.getD k 0) ⟨#[32]⟩ ++ ⟨#[10]⟩
def mtT (x y z : Int) (ts gs rs : List Int) : Nat → ByteArray
  | 0 => mtH x y z
  | k + 1 => mtT x y z ts gs rs k ++ mtR ts gs rs k
def mtS (x y z : Int) (ts gs rs : List Int) : ByteArray := if moB x y z ts gs rs then mtT x y z ts gs rs ts.length else ⟨#[]⟩
structure MtOk (x y z : Int) (ts gs rs : List Int) (N : Nat) : Prop where
  x1 : 0 ≤ x
  x2 : x ≤ 9
  y1 : 0 ≤ y
  y2 : y ≤ 9
  z1 : 0 ≤ z
  z2 : z ≤ 9
  t : ts.length = N
  g : gs.length = N
  r : rs.length = N
  n : N ≤ 120
  row : ∀ k, k < N → (0 ≤ ts.getD k 0 ∧ ts.getD k 0 ≤ 10000) ∧ (0 ≤ gs.getD k 0 ∧ gs.getD k 0 ≤ 1000) ∧ (0 ≤ rs.getD k 0 ∧ rs.getD k 0 ≤ 4)
theorem mtOk {x y z : Int} {ts gs rs : List Int} (h : moB x y z ts gs rs = true) : MtOk x y z ts gs rs ts.length := by
  obtain ⟨hg, a1, a2, a3, _⟩ := mo_true h
  obtain ⟨x1, x2, y1, y2, z1, z2, p1, p2, q1, q2⟩ := good_box hg
  exact ⟨by omega, by omega, by omega, by omega, by omega, by omega, rfl, by omega, by omega, by omega, fun k hk => by
    obtain ⟨_, _, _, b1, b2, b3, b4, b5, b6, _⟩ := metal_box h (k := k) (by omega)
    exact ⟨⟨b1, b2⟩, ⟨b3, b4⟩, b5, b6⟩⟩
theorem MtOk.small {x y z : Int} {ts gs rs : List Int} {N : Nat} (h : MtOk x y z ts gs rs N) : Small3 x y z := ⟨⟨by have := h.x1; omega, by have := h.x2; omega⟩, ⟨by have := h.y1; omega, by have := h.y2; omega⟩, by have := h.z1; omega, by have := h.z2; omega⟩
theorem MtOk.small_at {x y z : Int} {ts gs rs : List Int} {N k : Nat} (h : MtOk x y z ts gs rs N) (hk : k < N) : Small3 (ts.getD k 0) (gs.getD k 0) (rs.getD k 0) := by
  have := h.row k hk
  exact ⟨⟨by omega, by omega⟩, ⟨by omega, by omega⟩, by omega, by omega⟩
theorem mtH_size {x y z : Int} {ts gs rs : List Int} {N : Nat} (h : MtOk x y z ts gs rs N) : (mtH x y z).size ≤ 40 := by
  have := tri3_size h.small (sep := ⟨#[120]⟩) rfl
  unfold mtH
  simp only [ByteArray.size_append, show (⟨#[109, 111, 100, 101, 108, 32]⟩ : ByteArray).size = 6 from rfl, show (⟨#[10]⟩ : ByteArray).size = 1 from rfl]
  omega
theorem mtR_size {x y z : Int} {ts gs rs : List Int} {N k : Nat} (h : MtOk x y z ts gs rs N) (hk : k < N) : (mtR ts gs rs k).size ≤ 40 := by
  have := tri3_size (h.small_at hk) (sep := ⟨#[32]⟩) rfl
  unfold mtR
  simp only [ByteArray.size_append, show (⟨#[10]⟩ : ByteArray).size = 1 from rfl]
  omega
theorem mtT_size {x y z : Int} {ts gs rs : List Int} {N : Nat} (h : MtOk x y z ts gs rs N) : ∀ k, k ≤ N → (mtT x y z ts gs rs k).size ≤ 40 + 40 * k
  | 0, _ => by have := mtH_size h; simpa [mtT] using this
  | k + 1, hk => by
    have := mtT_size h k (by omega)
    have := mtR_size h (k := k) (by omega)
    rw [mtT, ByteArray.size_append]
    omega

set_option maxHeartbeats 8000000 in
set_option maxRecDepth 100000 in
theorem c_moText (x y z : Int) (v1 v2 v3 : Value) (ts gs rs : List Int) (N : Nat) (w : World) (ho : MtOk x y z ts gs rs N) (h : Look w v1 v2 v3 ts gs rs) :
    Calls Tryd.prog 12 #[.agg #[.int .i64 x, .int .i64 y, .int .i64 z, v1, v2, v3]] w fun e w' => e = .returned (.string (mtT x y z ts gs rs N)) ∧ Below w.heap.size w w' := by
  have H1 := Lib.hid h.t
  have H2 := Lib.hid h.g
  have H3 := Lib.hid h.r
  obtain ⟨A1, c1, rfl⟩ := h.t.shape
  obtain ⟨A2, c2, rfl⟩ := h.g.shape
  obtain ⟨A3, c3, rfl⟩ := h.r.shape
  have E1 : Hid (∀ k, k < N → ∃ b off, A1 = some ⟨b, off, none⟩ ∧ b < w.heap.size ∧ w.cell? ⟨b, off + k, none⟩ = some (.int .i64 (ts.getD k 0))) := fun k hk => by
    obtain ⟨b, off, c, e, hb, hc⟩ := h.t.at_ (k := k) (by rw [ho.t]; exact hk)
    exact ⟨b, off, by injection e, hb, hc⟩
  have E2 : Hid (∀ k, k < N → ∃ b off, A2 = some ⟨b, off, none⟩ ∧ b < w.heap.size ∧ w.cell? ⟨b, off + k, none⟩ = some (.int .i64 (gs.getD k 0))) := fun k hk => by
    obtain ⟨b, off, c, e, hb, hc⟩ := h.g.at_ (k := k) (by rw [ho.g]; exact hk)
    exact ⟨b, off, by injection e, hb, hc⟩
  have E3 : Hid (∀ k, k < N → ∃ b off, A3 = some ⟨b, off, none⟩ ∧ b < w.heap.size ∧ w.cell? ⟨b, off + k, none⟩ = some (.int .i64 (rs.getD k 0))) := fun k hk => by
    obtain ⟨b, off, c, e, hb, hc⟩ := h.r.at_ (k := k) (by rw [ho.r]; exact hk)
    exact ⟨b, off, by injection e, hb, hc⟩
  rw [ho.t, ho.g, ho.r]
  have HX0 : Hid (Box6 (w.alloc (.cells #[.int .i64 x, .int .i64 y, .int .i64 z, .slice A1 N c1, .slice A2 N c2, .slice A3 N c3] 26)) w.heap.size x y z (.slice A1 N c1) (.slice A2 N c2) (.slice A3 N c3)) := Box6.new _ _ _ _ _ _ _ _
  have HB0 : Hid (Below w.heap.size w (w.alloc (.cells #[.int .i64 x, .int .i64 y, .int .i64 z, .slice A1 N c1, .slice A2 N c2, .slice A3 N c3] 26))) := (Below.refl _ _).alloc (Nat.le_refl _) _
  have CG := Lib.hid (fun u => c_grTextT x y z u ho.x1 ho.x2 ho.y1 ho.y2 ho.z1 ho.z2)
  have hs0 := tri3_size ho.small (sep := ⟨#[120]⟩) rfl
  have a1 := addsT ⟨#[109, 111, 100, 101, 108, 32]⟩ (tri3 x y z ⟨#[120]⟩) (by show 6 + _ ≤ _; omega)
  have a2 := addsT (⟨#[109, 111, 100, 101, 108, 32]⟩ ++ tri3 x y z ⟨#[120]⟩) ⟨#[10]⟩ (by rw [ByteArray.size_append]; show 6 + _ + 1 ≤ _; omega)
  have HN : Hid (∀ (q : Int), 0 ≤ q → q ≤ 10000 → ∀ u, Calls Tryd.prog 25 #[.int .i64 q] u fun e w' => e = .returned (.string (itS q)) ∧ Below u.heap.size u w') := fun q q1 q2 u => by
    obtain ⟨m, rfl⟩ := Int.eq_ofNat_of_zero_le q1
    exact c_l1NumT m u (by omega)
  have HR : Hid (∀ k, k < N → (0 ≤ ts.getD k 0 ∧ ts.getD k 0 ≤ 10000) ∧ (0 ≤ gs.getD k 0 ∧ gs.getD k 0 ≤ 1000) ∧ (0 ≤ rs.getD k 0 ∧ rs.getD k 0 ≤ 4)) := ho.row
  have HSm : Hid (∀ k, k < N → Small3 (ts.getD k 0) (gs.getD k 0) (rs.getD k 0)) := fun k hk => ho.small_at hk
  have HT0 : Hid (mtT x y z ts gs rs 0 = ⟨#[109, 111, 100, 101, 108, 32]⟩ ++ tri3 x y z ⟨#[120]⟩ ++ ⟨#[10]⟩) := rfl
  have HTs : Hid (∀ k, mtT x y z ts gs rs (k + 1) = mtT x y z ts gs rs k ++ (tri3 (ts.getD k 0) (gs.getD k 0) (rs.getD k 0) ⟨#[32]⟩ ++ ⟨#[10]⟩)) := fun k => rfl
  have HTz : Hid (∀ k, k ≤ N → (mtT x y z ts gs rs k).size ≤ 40 + 40 * k) := mtT_size ho
  have hn := ho.n
  clear h ho hs0
  generalize mtT x y z ts gs rs = T at *
  generalize tri3 x y z ⟨#[120]⟩ = G at *
  go_enter Tryd.func12, Tryd.ntmps12
  go_wp2_with fail
  generalize w.alloc (.cells #[.int .i64 x, .int .i64 y, .int .i64 z, .slice A1 N c1, .slice A2 N c2, .slice A3 N c3] 26) = W0 at *
  have x0 := HX0.out.c0
  have x1 := HX0.out.c1
  have x2 := HX0.out.c2
  go_wp2_with fail
  refine (CG.out _).mono ?_
  rintro e w1 ⟨rfl, hb⟩
  have HX1 := Lib.hid (HX0.out.below hb)
  have HB1 : Hid (Below w.heap.size w w1) := HB0.out.trans (hb.mono HB0.out.size)
  clear hb x0 x1 x2
  have y3 := HX1.out.c3
  go_wp2_with fail
  clear y3 a1 a2
  go_loopw [3, 14] (fun s i wr => ∃ k : Nat, k ≤ N ∧ i = .int .i64 k ∧ s = .string (T k) ∧ Below w1.heap.size w1 wr) (fun _ i _ => N - (intOf i).toNat)
  case atStart => exact ⟨0, Nat.zero_le _, rfl, by rw [HT0.out], Below.refl _ _⟩
  case round =>
    obtain ⟨k, hk, rfl, rfl, hb⟩ := hrel
    have HB := Lib.hid hb
    have HX := Lib.hid (HX1.out.below hb)
    have HBw : Hid (Below w.heap.size w wr) := HB1.out.trans (hb.mono HB1.out.size)
    clear hb
    by_cases hlt : k < N
    · obtain ⟨b1, o1, rfl, l1, q1⟩ := E1.out k hlt
      obtain ⟨b2, o2, rfl, l2, q2⟩ := E2.out k hlt
      obtain ⟨b3, o3, rfl, l3, q3⟩ := E3.out k hlt
      obtain ⟨⟨t0, t1⟩, ⟨g0, g1⟩, r0, r1⟩ := HR.out k hlt
      have hsm := HSm.out k hlt
      obtain ⟨d1, d2, d3, d4⟩ := adds4T (sep := ⟨#[32]⟩) hsm rfl
      have hs3 := tri3_size hsm (sep := ⟨#[32]⟩) rfl
      have d5 := addsT (tri3 (ts.getD k 0) (gs.getD k 0) (rs.getD k 0) ⟨#[32]⟩) ⟨#[10]⟩ (by show _ + 1 ≤ _; omega)
      have d6 := addsT (T k) (tri3 (ts.getD k 0) (gs.getD k 0) (rs.getD k 0) ⟨#[32]⟩ ++ ⟨#[10]⟩) (by rw [ByteArray.size_append]; have := HTz.out k hk; show _ + (_ + 1) ≤ _; omega)
      have HTk := Lib.hid (HTs.out k)
      have C1 := Lib.hid (HN.out _ t0 t1)
      have C2 := Lib.hid (HN.out _ g0 (by omega))
      have C3 := Lib.hid (HN.out _ r0 (by omega))
      rw [← HBw.out.cell (p := ⟨b1, o1 + k, none⟩) l1] at q1
      rw [← HBw.out.cell (p := ⟨b2, o2 + k, none⟩) l2] at q2
      rw [← HBw.out.cell (p := ⟨b3, o3 + k, none⟩) l3] at q3
      have sz := HBw.out.size
      have m1 : b1 < wr.heap.size := by omega
      have m2 : b2 < wr.heap.size := by omega
      have m3 : b3 < wr.heap.size := by omega
      have b0 : (0 : Int) ≤ (k : Int) := by omega
      have b9 : (k : Int) < (N : Int) := by omega
      clear hsm hs3 t0 t1 g0 g1 r0 r1 l1 l2 l3 sz
      generalize tri3 (ts.getD k 0) (gs.getD k 0) (rs.getD k 0) ⟨#[32]⟩ = R3 at *
      generalize ts.getD k 0 = t at *
      generalize gs.getD k 0 = g at *
      generalize rs.getD k 0 = r at *
      generalize T k = S0 at *
      have z4 := HX.out.c4
      have z5 := HX.out.c5
      have zl := HX.out.lt
      go_wp2_with fail
      refine wp_region_grow (by kernel_rfl) (by kernel_rfl) ?_
      repeat (go_big_quiet_step (first
        | (go_at_call 25; with_reducible exact grow_of (C1.out _))
        | (go_at_call 25; with_reducible exact grow_of (C2.out _))
        | (go_at_call 25; with_reducible exact grow_of (C3.out _))))
      refine wpQuiet_nil ?_
      intro _ hw'
      obtain ⟨u, hw''⟩ := hw'
      subst hw''
      have hb2 := wOf_below wr u
      generalize wOf wr u = w6 at hb2 ⊢
      have HB6 : Hid (Below w1.heap.size w1 w6) := HB.out.trans (hb2.mono HB.out.size)
      clear hb2
      go_wp2
      go_roundw
      case rel => exact ⟨k + 1, by omega, by go_num, by rw [HTk.out], HB6.out⟩
      case measure => simp [intOf]; omega
    · obtain rfl : k = N := by omega
      go_wp2
      go_ret
      exact ⟨rfl, HBw.out⟩
end Go.Proofs.YtgibkjjjnfjbkaaDoor
