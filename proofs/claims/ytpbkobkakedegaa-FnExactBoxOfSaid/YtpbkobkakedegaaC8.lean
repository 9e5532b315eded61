/-
  Contracts: the program's LevelBlocks, ColumnBlocks, NeighboursOf and BoxOf.
-/
import Derived.Test.YtpbkobkakedegaaC7
namespace Go.Proofs.Ytpbkobkakedegaa
open Go.RowKit

def GivesRow2 (w : World) (xs : List Int) (b : Bool) (e : Ending) (w' : World) : Prop := ∃ v, e = .returned (.tuple #[v, .bool b]) ∧ Row w' w.heap.size v xs ∧ Below w.heap.size w w'

theorem cells_later {w w' : World} {g : Nat} {o : Nat} {u : Value} (hb : Below w.heap.size w w') (hg : g < w.heap.size) (h : w.cell? ⟨g, o, none⟩ = some u) : w'.cell? ⟨g, o, none⟩ = some u := (hb.cell (p := ⟨g, o, none⟩) hg).trans h

theorem cell_mid (w : World) (o0 o2 : Obj) (u : Value) (t : TypeId) : (((w.alloc o0).alloc (.cells #[u] t)).alloc o2).cell? ⟨w.heap.size + 1, 0, none⟩ = some u := by
  rw [World.cell?_alloc_lt _ _ _ (by simp only [World.size_alloc]; omega), World.cell?_alloc_at _ _ _ _ (by simp)]; rfl
theorem cell_top (w : World) (o0 o1 : Obj) (u : Value) (t : TypeId) : (((w.alloc o0).alloc o1).alloc (.cells #[u] t)).cell? ⟨w.heap.size + 1 + 1, 0, none⟩ = some u := by
  rw [World.cell?_alloc_at _ _ _ _ (by simp)]; rfl

/-- The number of blocks as a natural number. -/
def nB (x y z : Int) : Nat := (x * y * z).toNat
theorem nB_eq {x y z : Int} (h : goodB x y z = true) : x * y * z = (nB x y z : Int) := by
  have := good_box h
  unfold nB
  omega

def lvB (x y z a : Int) : Bool := goodB x y z && inB x y z 0 0 a
def lvL (x y z a : Int) : List Int := if lvB x y z a then sel (fun k => k / x / y == a) (nB x y z) else []

set_option maxHeartbeats 1000000 in
theorem c_LevelBlocks (x y z a : Int) (w : World) : Calls Try.prog 23 #[.agg #[.int .i64 x, .int .i64 y, .int .i64 z], .int .i64 a] w (GivesRow2 w (lvL x y z a) (lvB x y z a)) := by
  have hmf : ∀ (fn : Fn) (first cap : Array Value) (w : World), (Instr.makeFunc fn first cap).run Try.prog w = .ok (.func fn first cap) w := fun _ _ _ _ => rfl
  cases hg : goodB x y z
  · have hB : lvB x y z a = false := by unfold lvB; rw [hg]; rfl
    rw [show lvL x y z a = [] from if_neg (by rw [hB]; simp), hB]
    clear hB
    go_enter Try.func23, Try.ntmps23
    go_wp2_with (go_at_call 15; refine (c_IsGrid _ _ _ _).mono ?_; rintro e w1 ⟨rfl, hb1⟩)
    go_ret2
    exact ⟨_, rfl, Row.nil _ _, (((Below.refl _ _).alloc (Nat.le_refl _) _).alloc (by simp only [World.size_alloc]; omega) _).trans (hb1.mono (by simp only [World.size_alloc]; omega))⟩
  · cases hi : inB x y z 0 0 a
    · have hB : lvB x y z a = false := by unfold lvB; rw [hi]; simp
      rw [show lvL x y z a = [] from if_neg (by rw [hB]; simp), hB]
      clear hB
      go_enter Try.func23, Try.ntmps23
      go_wp2_with fail
      refine (c_IsGrid _ _ _ _).mono ?_
      rintro e w1 ⟨rfl, hb1⟩
      obtain ⟨hc1, hf1⟩ := bcell hb1
      have s1 := hb1.size
      simp at s1
      go_wp2_with fail
      refine (c_isPlace _ _ _ _ _ _ _).mono ?_
      rintro e w2 ⟨rfl, hb2⟩
      go_wp2
      go_ret2
      exact ⟨_, rfl, Row.nil _ _, ((((Below.refl _ _).alloc (Nat.le_refl _) _).alloc (by simp only [World.size_alloc]; omega) _).trans (hb1.mono (by simp only [World.size_alloc]; omega))).trans (hb2.mono (by omega))⟩
    · have hB : lvB x y z a = true := by unfold lvB; rw [hg, hi]; rfl
      rw [show lvL x y z a = _ from if_pos hB, hB]
      clear hB
      have HG := Lib.hid hg
      go_enter Try.func23, Try.ntmps23
      go_wp2_with fail
      refine (c_IsGrid _ _ _ _).mono ?_
      rintro e w1 ⟨rfl, hb1⟩
      obtain ⟨hc1, hf1⟩ := bcell hb1
      have s1 := hb1.size
      simp at s1
      go_wp2_with fail
      refine (c_isPlace _ _ _ _ _ _ _).mono ?_
      rintro e w2 ⟨rfl, hb2⟩
      obtain ⟨hc2, hf2⟩ := bcell hb2
      have s2 := hb2.size
      have t1 : w.heap.size < w1.heap.size := by omega
      have t2 : w.heap.size + 1 < w1.heap.size := by omega
      have k1 : w2.cell? ⟨w.heap.size + 1, 0, none⟩ = some (.int .i64 a) := by rw [hc2 _ _ t2, hc1 _ _ (by simp)]; simp
      have hb02 : Below w.heap.size w w2 := ((((Below.refl _ _).alloc (Nat.le_refl _) _).alloc (by simp only [World.size_alloc]; omega) _).trans (hb1.mono (by simp only [World.size_alloc]; omega))).trans (hb2.mono (by omega))
      go_wp2_with fail
      refine (c_where_LevelBlocks x y z (w.heap.size + 1) (fun k => k / x / y == a) w2 HG.out (nB x y z) (nB_eq HG.out) ?_).mono ?_
      · intro k w' _ _ hb'
        exact c_fnLevel _ _ _ _ _ _ (by have := hb'.size; omega) (cells_later hb' (by omega) k1)
      rintro e w3 ⟨v, rfl, hr, hb3⟩
      have HR := Lib.hid hr
      clear hr
      go_wp2
      go_ret2
      exact ⟨_, rfl, HR.out.mono (by omega), hb02.trans (hb3.mono (by omega))⟩

def coB (x y z a b : Int) : Bool := goodB x y z && inB x y z a b 0
def coL (x y z a b : Int) : List Int := if coB x y z a b then sel (fun k => k % x == a && k / x % y == b) (nB x y z) else []

set_option maxHeartbeats 1000000 in
theorem c_ColumnBlocks (x y z a b : Int) (w : World) : Calls Try.prog 28 #[.agg #[.int .i64 x, .int .i64 y, .int .i64 z], .int .i64 a, .int .i64 b] w (GivesRow2 w (coL x y z a b) (coB x y z a b)) := by
  have hmf : ∀ (fn : Fn) (first cap : Array Value) (w : World), (Instr.makeFunc fn first cap).run Try.prog w = .ok (.func fn first cap) w := fun _ _ _ _ => rfl
  cases hg : goodB x y z
  · have hB : coB x y z a b = false := by unfold coB; rw [hg]; rfl
    rw [show coL x y z a b = [] from if_neg (by rw [hB]; simp), hB]
    clear hB
    go_enter Try.func28, Try.ntmps28
    go_wp2_with (go_at_call 15; refine (c_IsGrid _ _ _ _).mono ?_; rintro e w1 ⟨rfl, hb1⟩)
    go_ret2
    exact ⟨_, rfl, Row.nil _ _, ((((Below.refl _ _).alloc (Nat.le_refl _) _).alloc (by simp only [World.size_alloc]; omega) _).alloc (by simp only [World.size_alloc]; omega) _).trans (hb1.mono (by simp only [World.size_alloc]; omega))⟩
  · cases hi : inB x y z a b 0
    · have hB : coB x y z a b = false := by unfold coB; rw [hi]; simp
      rw [show coL x y z a b = [] from if_neg (by rw [hB]; simp), hB]
      clear hB
      go_enter Try.func28, Try.ntmps28
      go_wp2_with fail
      refine (c_IsGrid _ _ _ _).mono ?_
      rintro e w1 ⟨rfl, hb1⟩
      obtain ⟨hc1, hf1⟩ := bcell hb1
      have s1 := hb1.size
      simp at s1
      go_wp2_with fail
      refine (c_isPlace _ _ _ _ _ _ _).mono ?_
      rintro e w2 ⟨rfl, hb2⟩
      go_wp2
      go_ret2
      exact ⟨_, rfl, Row.nil _ _, (((((Below.refl _ _).alloc (Nat.le_refl _) _).alloc (by simp only [World.size_alloc]; omega) _).alloc (by simp only [World.size_alloc]; omega) _).trans (hb1.mono (by simp only [World.size_alloc]; omega))).trans (hb2.mono (by omega))⟩
    · have hB : coB x y z a b = true := by unfold coB; rw [hg, hi]; rfl
      rw [show coL x y z a b = _ from if_pos hB, hB]
      clear hB
      have HG := Lib.hid hg
      go_enter Try.func28, Try.ntmps28
      go_wp2_with fail
      refine (c_IsGrid _ _ _ _).mono ?_
      rintro e w1 ⟨rfl, hb1⟩
      obtain ⟨hc1, hf1⟩ := bcell hb1
      have s1 := hb1.size
      simp at s1
      go_wp2_with fail
      refine (c_isPlace _ _ _ _ _ _ _).mono ?_
      rintro e w2 ⟨rfl, hb2⟩
      obtain ⟨hc2, hf2⟩ := bcell hb2
      have s2 := hb2.size
      have t1 : w.heap.size < w1.heap.size := by omega
      have t2 : w.heap.size + 1 < w1.heap.size := by omega
      have t3 : w.heap.size + 1 + 1 < w1.heap.size := by omega
      have k1 : w2.cell? ⟨w.heap.size + 1, 0, none⟩ = some (.int .i64 a) := by rw [hc2 _ _ t2, hc1 (w.heap.size + 1) 0 (by simp only [World.size_alloc]; omega)]; exact cell_mid _ _ _ _ _
      have k2 : w2.cell? ⟨w.heap.size + 1 + 1, 0, none⟩ = some (.int .i64 b) := by rw [hc2 _ _ t3, hc1 (w.heap.size + 1 + 1) 0 (by simp only [World.size_alloc]; omega)]; exact cell_top _ _ _ _ _
      have hb02 : Below w.heap.size w w2 := (((((Below.refl _ _).alloc (Nat.le_refl _) _).alloc (by simp only [World.size_alloc]; omega) _).alloc (by simp only [World.size_alloc]; omega) _).trans (hb1.mono (by simp only [World.size_alloc]; omega))).trans (hb2.mono (by omega))
      go_wp2_with fail
      refine (c_where_ColumnBlocks x y z (w.heap.size + 1) (w.heap.size + 1 + 1) (fun k => k % x == a && k / x % y == b) w2 HG.out (nB x y z) (nB_eq HG.out) ?_).mono ?_
      · intro k w' _ _ hb'
        exact c_fnColumn _ _ _ _ _ _ _ _ (by have := hb'.size; omega) (by have := hb'.size; omega) (cells_later hb' (by omega) k1) (cells_later hb' (by omega) k2)
      rintro e w3 ⟨v, rfl, hr, hb3⟩
      have HR := Lib.hid hr
      clear hr
      go_wp2
      go_ret2
      exact ⟨_, rfl, HR.out.mono (by omega), hb02.trans (hb3.mono (by omega))⟩

def neL (x y z i : Int) : List Int := if hasB x y z i then sel (fun k => steps x y i k == 1) (nB x y z) else []

set_option maxHeartbeats 1000000 in
theorem c_NeighboursOf (x y z i : Int) (w : World) : Calls Try.prog 30 #[.agg #[.int .i64 x, .int .i64 y, .int .i64 z], .int .i64 i] w (GivesRow2 w (neL x y z i) (hasB x y z i)) := by
  have hmf : ∀ (fn : Fn) (first cap : Array Value) (w : World), (Instr.makeFunc fn first cap).run Try.prog w = .ok (.func fn first cap) w := fun _ _ _ _ => rfl
  cases hg : hasB x y z i
  · rw [show neL x y z i = [] from if_neg (by rw [hg]; simp)]
    go_enter Try.func30, Try.ntmps30
    go_wp2_with (go_at_call 47; refine (c_isBlock _ _ _ _ _).mono ?_; rintro e w1 ⟨rfl, hb1⟩)
    go_ret2
    exact ⟨_, rfl, Row.nil _ _, ((Below.refl _ _).alloc (Nat.le_refl _) _).trans (hb1.mono (by simp only [World.size_alloc]; omega))⟩
  · rw [show neL x y z i = _ from if_pos hg]
    obtain ⟨hh, hi1, hi2⟩ := has_true hg
    have HG := Lib.hid hh
    obtain ⟨x1, x2, y1, y2, z1, z2, p1, p2, q1, q2⟩ := good_box hh
    clear hh
    obtain ⟨hd1, hd2⟩ := div_box x1 hi1
    obtain ⟨he1, he2⟩ := div_box (i := i / x) y1 hd1
    obtain ⟨hm1, hm2⟩ := mod_box (i := i) x1
    obtain ⟨hn1, hn2⟩ := mod_box (i := i / x) y1
    have hi3 : i ≤ 1000 := by omega
    go_enter Try.func30, Try.ntmps30
    go_wp2_with fail
    refine (c_isBlock _ _ _ _ _).mono ?_
    rintro e w1 ⟨rfl, hb1⟩
    obtain ⟨hc1, hf1⟩ := bcell hb1
    have s1 := hb1.size
    simp at s1
    go_wp2_with fail
    refine (c_findPlace _ _ _ _ _ x1 x2 y1 y2 hi1 hi3).mono ?_
    rintro e w2 ⟨rfl, hb2⟩
    obtain ⟨hc2, hf2⟩ := bcell hb2
    have s2 := hb2.size
    have t1 : w.heap.size < w1.heap.size := by omega
    have t2 : w.heap.size < w2.heap.size := by omega
    have t3 : w.heap.size ≠ w2.heap.size := by omega
    have hb02 : Below w.heap.size w w2 := (((Below.refl _ _).alloc (Nat.le_refl _) _).trans (hb1.mono (by simp only [World.size_alloc]; omega))).trans (hb2.mono (by omega))
    go_wp2_with fail
    refine (c_where_NeighboursOf x y z w2.heap.size (fun k => steps x y i k == 1) _ HG.out (nB x y z) (nB_eq HG.out) ?_).mono ?_
    · intro k w' k1 k2 hb'
      have hk3 : k ≤ 1000 := by have := nB_eq HG.out; omega
      obtain ⟨ud1, ud2⟩ := div_box x1 k1
      obtain ⟨ue1, ue2⟩ := div_box (i := k / x) y1 ud1
      obtain ⟨um1, um2⟩ := mod_box (i := k) x1
      obtain ⟨un1, un2⟩ := mod_box (i := k / x) y1
      have sz := hb'.size
      simp at sz
      exact c_fnNeighbours _ _ _ _ _ _ _ _ (by omega) (cells_later hb' (by simp) (by simp)) (cells_later hb' (by simp) (by simp)) (cells_later hb' (by simp) (by simp))
        (by omega) (by omega) (by omega) (by omega) (by omega) (by omega) (by omega) (by omega) (by omega) (by omega) (by omega) (by omega)
    rintro e w3 ⟨v, rfl, hr, hb3⟩
    have HR := Lib.hid hr
    clear hr
    go_wp2
    go_ret2
    exact ⟨_, rfl, HR.out.mono (by simp; omega), (hb02.alloc (by omega) _).trans (hb3.mono (by simp; omega))⟩

def boB (x y z i r : Int) : Bool := hasB x y z i && decide (0 ≤ r ∧ r ≤ 8)
def boL (x y z i r : Int) : List Int := if boB x y z i r then sel (fun k => nearB (i % x) (i / x % y) (i / x / y) (k % x) (k / x % y) (k / x / y) r) (nB x y z) else []

set_option maxHeartbeats 1000000 in
theorem c_BoxOf (x y z i r : Int) (w : World) : Calls Try.prog 32 #[.agg #[.int .i64 x, .int .i64 y, .int .i64 z], .int .i64 i, .int .i64 r] w (GivesRow2 w (boL x y z i r) (boB x y z i r)) := by
  have hmf : ∀ (fn : Fn) (first cap : Array Value) (w : World), (Instr.makeFunc fn first cap).run Try.prog w = .ok (.func fn first cap) w := fun _ _ _ _ => rfl
  cases hg : hasB x y z i
  · have hB : boB x y z i r = false := by unfold boB; rw [hg]; rfl
    rw [show boL x y z i r = [] from if_neg (by rw [hB]; simp), hB]
    clear hB
    go_enter Try.func32, Try.ntmps32
    go_wp2_with (go_at_call 47; refine (c_isBlock _ _ _ _ _).mono ?_; rintro e w1 ⟨rfl, hb1⟩)
    go_ret2
    exact ⟨_, rfl, Row.nil _ _, (((Below.refl _ _).alloc (Nat.le_refl _) _).alloc (by simp only [World.size_alloc]; omega) _).trans (hb1.mono (by simp only [World.size_alloc]; omega))⟩
  · by_cases hr0 : r < 0 ∨ 8 < r
    · have hB : boB x y z i r = false := by unfold boB; rw [decide_eq_false (by omega)]; simp
      rw [show boL x y z i r = [] from if_neg (by rw [hB]; simp), hB]
      clear hB
      rcases hr0 with hr0 | hr0
      all_goals
        go_enter Try.func32, Try.ntmps32
        go_wp2_with fail
        refine (c_isBlock _ _ _ _ _).mono ?_
        rintro e w1 ⟨rfl, hb1⟩
        obtain ⟨hc1, hf1⟩ := bcell hb1
        have s1 := hb1.size
        simp at s1
        go_wp2
        go_ret2
        exact ⟨_, rfl, Row.nil _ _, (((Below.refl _ _).alloc (Nat.le_refl _) _).alloc (by simp only [World.size_alloc]; omega) _).trans (hb1.mono (by simp only [World.size_alloc]; omega))⟩
    · have r1 : 0 ≤ r := by omega
      have r2 : r ≤ 8 := by omega
      have hB : boB x y z i r = true := by unfold boB; rw [hg, decide_eq_true ⟨r1, r2⟩]; rfl
      rw [show boL x y z i r = _ from if_pos hB, hB]
      clear hB hr0
      obtain ⟨hh, hi1, hi2⟩ := has_true hg
      have HG := Lib.hid hh
      obtain ⟨x1, x2, y1, y2, z1, z2, p1, p2, q1, q2⟩ := good_box hh
      clear hh
      obtain ⟨hd1, hd2⟩ := div_box x1 hi1
      obtain ⟨he1, he2⟩ := div_box (i := i / x) y1 hd1
      obtain ⟨hm1, hm2⟩ := mod_box (i := i) x1
      obtain ⟨hn1, hn2⟩ := mod_box (i := i / x) y1
      have hi3 : i ≤ 1000 := by omega
      go_enter Try.func32, Try.ntmps32
      go_wp2_with fail
      refine (c_isBlock _ _ _ _ _).mono ?_
      rintro e w1 ⟨rfl, hb1⟩
      obtain ⟨hc1, hf1⟩ := bcell hb1
      have s1 := hb1.size
      simp at s1
      go_wp2_with fail
      refine (c_findPlace _ _ _ _ _ x1 x2 y1 y2 hi1 hi3).mono ?_
      rintro e w2 ⟨rfl, hb2⟩
      obtain ⟨hc2, hf2⟩ := bcell hb2
      have s2 := hb2.size
      have t1 : w.heap.size < w1.heap.size := by omega
      have t4 : w.heap.size + 1 < w1.heap.size := by omega
      have t2 : w.heap.size < w2.heap.size := by omega
      have t5 : w.heap.size + 1 < w2.heap.size := by omega
      have k0 : w2.cell? ⟨w.heap.size + 1, 0, none⟩ = some (.int .i64 r) := by rw [hc2 _ _ t4, hc1 _ _ (by simp)]; simp
      have hb02 : Below w.heap.size w w2 := ((((Below.refl _ _).alloc (Nat.le_refl _) _).alloc (by simp only [World.size_alloc]; omega) _).trans (hb1.mono (by simp only [World.size_alloc]; omega))).trans (hb2.mono (by omega))
      go_wp2_with fail
      refine (c_where_BoxOf x y z w2.heap.size (w.heap.size + 1) (fun k => nearB (i % x) (i / x % y) (i / x / y) (k % x) (k / x % y) (k / x / y) r) _ HG.out (nB x y z) (nB_eq HG.out) ?_).mono ?_
      · intro k w' k1 k2 hb'
        have hk3 : k ≤ 1000 := by have := nB_eq HG.out; omega
        obtain ⟨ud1, ud2⟩ := div_box x1 k1
        obtain ⟨ue1, ue2⟩ := div_box (i := k / x) y1 ud1
        obtain ⟨um1, um2⟩ := mod_box (i := k) x1
        obtain ⟨un1, un2⟩ := mod_box (i := k / x) y1
        have sz := hb'.size
        simp at sz
        exact c_fnBox _ _ _ _ _ _ _ _ _ _ (by omega) (by omega) (cells_later hb' (by simp) (by simp)) (cells_later hb' (by simp) (by simp)) (cells_later hb' (by simp) (by simp)) (cells_later hb' (by simp; omega) (by rw [World.cell?_alloc_lt _ _ _ t5]; exact k0))
          (by omega) (by omega) (by omega) (by omega) (by omega) (by omega) (by omega) (by omega) (by omega) (by omega) (by omega) (by omega)
      rintro e w3 ⟨v, rfl, hr, hb3⟩
      have HR := Lib.hid hr
      clear hr
      go_wp2
      go_ret2
      exact ⟨_, rfl, HR.out.mono (by simp; omega), (hb02.alloc (by omega) _).trans (hb3.mono (by simp; omega))⟩
end Go.Proofs.Ytpbkobkakedegaa
