/-
  Squares of blocks, wide blocks, and trimmed pits: plain facts.
-/
import Derived.Test.YtfpjodoimfbadaaXA
namespace Go.Proofs.Ytfpjodoimfbadaa
set_option linter.unusedVariables false

/-! ### numbers of blocks -/
def nbI (X Y a b c : Int) : Int := (c * Y + b) * X + a
theorem div_q {q X a : Int} (h0 : 0 ≤ a) (h1 : a < X) : (q * X + a) / X = q := by
  rw [Int.add_comm, Int.add_mul_ediv_right _ _ (by omega), Int.ediv_eq_zero_of_lt h0 h1, Int.zero_add]
theorem mod_q {q X a : Int} (h0 : 0 ≤ a) (h1 : a < X) : (q * X + a) % X = a := by
  rw [Int.add_comm, Int.add_mul_emod_self_right, Int.emod_eq_of_lt h0 h1]
theorem nb_x {X Y a b c : Int} (h0 : 0 ≤ a) (h1 : a < X) : nbI X Y a b c % X = a := mod_q h0 h1
theorem nb_y {X Y a b c : Int} (h0 : 0 ≤ a) (h1 : a < X) (h2 : 0 ≤ b) (h3 : b < Y) : nbI X Y a b c / X % Y = b := by
  unfold nbI
  rw [div_q h0 h1, mod_q h2 h3]
theorem nb_z {X Y a b c : Int} (h0 : 0 ≤ a) (h1 : a < X) (h2 : 0 ≤ b) (h3 : b < Y) : nbI X Y a b c / X / Y = c := by
  unfold nbI
  rw [div_q h0 h1, div_q h2 h3]
theorem nb_back {X Y i : Int} : nbI X Y (i % X) (i / X % Y) (i / X / Y) = i := by
  unfold nbI
  have e1 := Int.mul_ediv_add_emod i X
  have e2 := Int.mul_ediv_add_emod (i / X) Y
  rw [Int.mul_comm (i / X / Y) Y, e2, Int.mul_comm, e1]
theorem nb_box {X Y Z a b c : Int} (h0 : 0 ≤ a) (h1 : a < X) (h2 : 0 ≤ b) (h3 : b < Y) (h4 : 0 ≤ c) (h5 : c < Z) : 0 ≤ nbI X Y a b c ∧ nbI X Y a b c < X * Y * Z := by
  unfold nbI
  have m1 : 0 ≤ c * Y := Int.mul_nonneg h4 (by omega)
  have m2 : c * Y ≤ (Z - 1) * Y := Int.mul_le_mul_of_nonneg_right (by omega) (by omega)
  have m3 : (Z - 1) * Y = Z * Y - Y := by rw [Int.sub_mul, Int.one_mul]
  have m4 : 0 ≤ (c * Y + b) * X := Int.mul_nonneg (by omega) (by omega)
  have m5 : (c * Y + b) * X ≤ (Z * Y - 1) * X := Int.mul_le_mul_of_nonneg_right (by omega) (by omega)
  have m6 : (Z * Y - 1) * X = Z * Y * X - X := by rw [Int.sub_mul, Int.one_mul]
  have m7 : X * Y * Z = Z * Y * X := by rw [Int.mul_comm (X * Y) Z, Int.mul_comm X Y, ← Int.mul_assoc]
  omega
/-- The coordinates of a block of the grid. -/
theorem at_coords {X Y Z i : Int} (hx : 1 ≤ X) (hy : 1 ≤ Y) (hi0 : 0 ≤ i) (hi1 : i < X * Y * Z) : (0 ≤ i % X ∧ i % X < X) ∧ (0 ≤ i / X % Y ∧ i / X % Y < Y) ∧ 0 ≤ i / X / Y ∧ i / X / Y < Z := by
  have h1 := Int.emod_nonneg i (show X ≠ 0 by omega)
  have h2 := Int.emod_lt_of_pos i (show 0 < X by omega)
  have h3 := Int.emod_nonneg (i / X) (show Y ≠ 0 by omega)
  have h4 := Int.emod_lt_of_pos (i / X) (show 0 < Y by omega)
  have h5 : 0 ≤ i / X := Int.ediv_nonneg hi0 (by omega)
  have h6 : 0 ≤ i / X / Y := Int.ediv_nonneg h5 (by omega)
  refine ⟨⟨h1, h2⟩, ⟨h3, h4⟩, h6, ?_⟩
  refine Int.ediv_lt_of_lt_mul (by omega) ?_
  refine Int.ediv_lt_of_lt_mul (by omega) ?_
  have m7 : X * Y * Z = Z * Y * X := by rw [Int.mul_comm (X * Y) Z, Int.mul_comm X Y, ← Int.mul_assoc]
  omega

/-! ### squares -/
/-- The first dy rows of w numbers, and dx numbers of the next row. -/
def sqL (e : Nat → Nat → Int) (w dy dx : Nat) : List Int := ((List.range dy).flatMap fun r => (List.range w).map (e r)) ++ (List.range dx).map (e dy)
theorem sq_zero (e : Nat → Nat → Int) (w : Nat) : sqL e w 0 0 = [] := rfl
theorem sq_next (e : Nat → Nat → Int) (w dy dx : Nat) : sqL e w dy (dx + 1) = sqL e w dy dx ++ [e dy dx] := by simp [sqL, List.range_succ]
theorem sq_row (e : Nat → Nat → Int) (w dy : Nat) : sqL e w dy w = sqL e w (dy + 1) 0 := by simp [sqL, List.range_succ]
theorem sq_len (e : Nat → Nat → Int) (w : Nat) : ∀ dy dx, (sqL e w dy dx).length = dy * w + dx
  | 0, dx => by simp [sqL]
  | dy + 1, dx => by
    have h := sq_len e w dy w
    rw [sq_row] at h
    unfold sqL at h ⊢
    rw [List.length_append] at h ⊢
    simp at h ⊢
    rw [h, Nat.succ_mul]
theorem sq_mem (e : Nat → Nat → Int) (w : Nat) (x : Int) : x ∈ sqL e w w 0 ↔ ∃ dy dx, dy < w ∧ dx < w ∧ x = e dy dx := by
  simp only [sqL, List.range_zero, List.map_nil, List.append_nil, List.mem_flatMap, List.mem_range, List.mem_map]
  constructor
  · rintro ⟨dy, h1, dx, h2, rfl⟩; exact ⟨dy, dx, h1, h2, rfl⟩
  · rintro ⟨dy, dx, h1, h2, rfl⟩; exact ⟨dy, h1, dx, h2, rfl⟩
def sqE (X Y x y z : Int) (dy dx : Nat) : Int := nbI X Y (x + dx) (y + dy) z
def sqB (X Y : Int) (w : Nat) (x y z : Int) : List Int := sqL (sqE X Y x y z) w w 0
theorem sqB_len (X Y : Int) (w : Nat) (x y z : Int) : (sqB X Y w x y z).length = w * w := by unfold sqB; rw [sq_len]; omega
theorem sqB_in {X Y Z : Int} {w : Nat} {x y z : Int} (h0 : 0 ≤ x) (h1 : x + w ≤ X) (h2 : 0 ≤ y) (h3 : y + w ≤ Y) (h4 : 0 ≤ z) (h5 : z < Z) : InX (X * Y * Z).toNat (sqB X Y w x y z) := fun k hk => by
  unfold sqB at hk
  rw [sq_mem] at hk
  obtain ⟨dy, dx, hy, hx, rfl⟩ := hk
  have := nb_box (X := X) (Y := Y) (Z := Z) (a := x + dx) (b := y + dy) (c := z) (by omega) (by omega) (by omega) (by omega) h4 h5
  unfold sqE
  omega
/-- The square whose first block is f, or none if it does not lie in the grid. -/
def sqF (X Y : Int) (w : Nat) (f : Int) : List Int := if f % X + w > X ∨ f / X % Y + w > Y then [] else sqB X Y w (f % X) (f / X % Y) (f / X / Y)
def goF (X Y : Int) (w : Nat) (l : List Int) (f : Int) : Bool := decide (0 < (sqF X Y w f).length) && (sqF X Y w f).all (inL l)
/-- Whether a block lies in a square, of the first m, that is in the list. -/
def wiP (X Y : Int) (w : Nat) (l : List Int) (m : Nat) (k : Int) : Bool := (List.range m).any fun f => goF X Y w l f && inL (sqF X Y w f) k
theorem wi_zero (X Y : Int) (w : Nat) (l : List Int) : wiP X Y w l 0 = fun _ => false := rfl
theorem wi_next (X Y : Int) (w : Nat) (l : List Int) (m : Nat) (k : Int) : wiP X Y w l (m + 1) k = (wiP X Y w l m k || (goF X Y w l m && inL (sqF X Y w m) k)) := by simp [wiP, List.range_succ]
def wiL (X Y Z : Int) (w : Nat) (l : List Int) : List Int := sel (wiP X Y w l (X * Y * Z).toNat) (X * Y * Z).toNat

/-! ### squares around a block -/
def fsI (p : Int) (w : Nat) : Int := max (p - w + 1) 0
def lsI (p S : Int) (w : Nat) : Int := min p (S - w)
def cnI (p S : Int) (w : Nat) : Nat := (lsI p S w - fsI p w + 1).toNat
theorem cn_at {p S : Int} {w t : Nat} (h0 : 0 ≤ p) (ht : t < cnI p S w) : 0 ≤ fsI p w + t ∧ fsI p w + t + w ≤ S ∧ fsI p w + t ≤ p ∧ p < fsI p w + t + w := by
  unfold cnI at ht
  unfold fsI lsI at *
  omega
theorem cn_of {p S x : Int} {w : Nat} (h0 : 0 ≤ x) (h1 : x + w ≤ S) (h2 : x ≤ p) (h3 : p < x + w) : fsI p w ≤ x ∧ (x - fsI p w).toNat < cnI p S w := by
  unfold cnI fsI lsI
  omega
def arN (X Y : Int) (w : Nat) (i : Int) : Nat := cnI (i / X % Y) Y w * cnI (i % X) X w
def arS (X Y : Int) (w : Nat) (i : Int) (f : Nat) : List Int := sqB X Y w (fsI (i % X) w + (f % cnI (i % X) X w : Nat)) (fsI (i / X % Y) w + (f / cnI (i % X) X w : Nat)) (i / X / Y)
def arB (X Y : Int) (w : Nat) (l : List Int) (i : Int) : Bool := (List.range (arN X Y w i)).any fun f => (arS X Y w i f).all (inL l)
theorem ar_split {X Y : Int} {w : Nat} {i : Int} {f : Nat} (h : f < arN X Y w i) : f % cnI (i % X) X w < cnI (i % X) X w ∧ f / cnI (i % X) X w < cnI (i / X % Y) Y w := by
  unfold arN at h
  have h0 : 0 < cnI (i % X) X w := by
    rcases Nat.eq_zero_or_pos (cnI (i % X) X w) with e | e
    · rw [e, Nat.mul_zero] at h; omega
    · exact e
  exact ⟨Nat.mod_lt _ h0, Nat.div_lt_of_lt_mul (by rw [Nat.mul_comm]; exact h)⟩
theorem ar_in {X Y Z : Int} {w : Nat} {i : Int} {f : Nat} (hx : 1 ≤ X) (hy : 1 ≤ Y) (hi0 : 0 ≤ i) (hi1 : i < X * Y * Z) (h : f < arN X Y w i) : InX (X * Y * Z).toNat (arS X Y w i f) := by
  obtain ⟨h1, h2⟩ := ar_split h
  obtain ⟨⟨a0, a1⟩, ⟨b0, b1⟩, c0, c1⟩ := at_coords (X := X) (Y := Y) (Z := Z) hx hy hi0 hi1
  have k1 := cn_at a0 h1
  have k2 := cn_at b0 h2
  exact sqB_in k1.1 k1.2.1 k2.1 k2.2.1 c0 c1
theorem wide_at {X Y Z : Int} {w : Nat} {l : List Int} {k : Int} (hx : 1 ≤ X) (hy : 1 ≤ Y) (hw : 1 ≤ w) (hk0 : 0 ≤ k) (hk1 : k < X * Y * Z) : (inL l k && arB X Y w l k) = wiP X Y w l (X * Y * Z).toNat k := by
  obtain ⟨⟨a0, a1⟩, ⟨b0, b1⟩, c0, c1⟩ := at_coords (X := X) (Y := Y) (Z := Z) hx hy hk0 hk1
  rw [Bool.eq_iff_iff, Bool.and_eq_true]
  unfold arB wiP
  rw [List.any_eq_true, List.any_eq_true]
  constructor
  · rintro ⟨hl, f, hf, ha⟩
    obtain ⟨h1, h2⟩ := ar_split (List.mem_range.1 hf)
    have k1 := cn_at a0 h1
    have k2 := cn_at b0 h2
    unfold arS at ha
    obtain ⟨x, hxe⟩ : ∃ x, fsI (k % X) w + (f % cnI (k % X) X w : Nat) = x := ⟨_, rfl⟩
    obtain ⟨y, hye⟩ : ∃ y, fsI (k / X % Y) w + (f / cnI (k % X) X w : Nat) = y := ⟨_, rfl⟩
    rw [hxe] at k1 ha
    rw [hye] at k2 ha
    have bx := nb_box (X := X) (Y := Y) (Z := Z) (a := x) (b := y) (c := k / X / Y) (by omega) (by omega) (by omega) (by omega) c0 c1
    obtain ⟨F, hF⟩ := Int.eq_ofNat_of_zero_le bx.1
    have e : sqF X Y w (F : Int) = sqB X Y w x y (k / X / Y) := by
      unfold sqF
      rw [← hF, nb_x (by omega) (by omega), nb_y (by omega) (by omega) (by omega) (by omega), nb_z (by omega) (by omega) (by omega) (by omega), if_neg (by omega)]
    refine ⟨F, List.mem_range.2 (by omega), ?_⟩
    unfold goF
    rw [e, ha, sqB_len, decide_eq_true (Nat.mul_pos hw hw), Bool.true_and, Bool.true_and, inL_iff]
    unfold sqB
    rw [sq_mem]
    refine ⟨(k / X % Y - y).toNat, (k % X - x).toNat, by omega, by omega, ?_⟩
    unfold sqE
    rw [show x + ((k % X - x).toNat : Int) = k % X by omega, show y + ((k / X % Y - y).toNat : Int) = k / X % Y by omega, nb_back]
  · rintro ⟨F, hF, hg⟩
    have hF' := List.mem_range.1 hF
    obtain ⟨⟨p0, p1⟩, ⟨q0, q1⟩, r0, r1⟩ := at_coords (X := X) (Y := Y) (Z := Z) (i := (F : Int)) hx hy (by omega) (by omega)
    unfold goF at hg
    rw [Bool.and_eq_true, Bool.and_eq_true, inL_iff] at hg
    obtain ⟨⟨hl, ha⟩, hm⟩ := hg
    have hkl : k ∈ l := by
      rw [List.all_eq_true] at ha
      exact inL_iff.1 (ha _ hm)
    refine ⟨inL_iff.2 hkl, ?_⟩
    unfold sqF at hm ha
    split at hm
    · cases hm
    · rename_i hfit
      rw [if_neg hfit] at ha
      unfold sqB at hm
      rw [sq_mem] at hm
      obtain ⟨dy, dx, hdy, hdx, hk⟩ := hm
      unfold sqE at hk
      obtain ⟨x, hxe⟩ : ∃ x, (F : Int) % X = x := ⟨_, rfl⟩
      obtain ⟨y, hye⟩ : ∃ y, (F : Int) / X % Y = y := ⟨_, rfl⟩
      obtain ⟨z, hze⟩ : ∃ z, (F : Int) / X / Y = z := ⟨_, rfl⟩
      rw [hxe, hye, hze] at hk ha
      rw [hxe] at p0 p1 hfit
      rw [hye] at q0 q1 hfit
      have ex : k % X = x + dx := by rw [hk]; exact nb_x (by omega) (by omega)
      have ey : k / X % Y = y + dy := by rw [hk]; exact nb_y (by omega) (by omega) (by omega) (by omega)
      have ez : k / X / Y = z := by rw [hk]; exact nb_z (by omega) (by omega) (by omega) (by omega)
      obtain ⟨m1, m2⟩ := cn_of (p := k % X) (S := X) (x := x) (w := w) p0 (by omega) (by omega) (by omega)
      obtain ⟨m3, m4⟩ := cn_of (p := k / X % Y) (S := Y) (x := y) (w := w) q0 (by omega) (by omega) (by omega)
      have n0 : 0 < cnI (k % X) X w := by omega
      refine ⟨(y - fsI (k / X % Y) w).toNat * cnI (k % X) X w + (x - fsI (k % X) w).toNat, List.mem_range.2 ?_, ?_⟩
      · unfold arN
        have := Nat.mul_le_mul_right (cnI (k % X) X w) (show (y - fsI (k / X % Y) w).toNat + 1 ≤ cnI (k / X % Y) Y w by omega)
        rw [Nat.succ_mul] at this
        omega
      · unfold arS
        rw [Nat.mul_comm (y - fsI (k / X % Y) w).toNat, Nat.mul_add_mod, Nat.mod_eq_of_lt m2, Nat.mul_add_div n0, Nat.div_eq_of_lt m2, Nat.add_zero, ez]
        rw [show fsI (k % X) w + ((x - fsI (k % X) w).toNat : Int) = x by omega, show fsI (k / X % Y) w + ((y - fsI (k / X % Y) w).toNat : Int) = y by omega]
        exact ha
theorem wide_eq {X Y Z : Int} {w : Nat} {l : List Int} (hx : 1 ≤ X) (hy : 1 ≤ Y) (hw : 1 ≤ w) (hl : risB (X * Y * Z).toNat l = true) : l.filter (arB X Y w l) = wiL X Y Z w l := by
  refine rising_ext ((ris_rising hl).sublist List.filter_sublist) (sel_rising _ _) fun x => ?_
  unfold wiL
  rw [List.mem_filter, mem_sel]
  unfold inr
  rw [Bool.and_eq_true, decide_eq_true_eq]
  constructor
  · rintro ⟨h1, h2⟩
    have h := ris_mem hl h1
    refine ⟨h, ?_⟩
    rw [← wide_at hx hy hw (by omega) (by omega), h2, inL_iff.2 h1]
    rfl
  · rintro ⟨h, h2⟩
    rw [← wide_at hx hy hw (by omega) (by omega), Bool.and_eq_true, inL_iff] at h2
    exact h2
theorem wi_sub {X Y Z : Int} {w : Nat} {l : List Int} : ∀ x, x ∈ wiL X Y Z w l → x ∈ l := fun x hx => by
  unfold wiL at hx
  rw [mem_sel] at hx
  unfold inr at hx
  rw [Bool.and_eq_true] at hx
  have h := hx.2
  unfold wiP goF at h
  rw [List.any_eq_true] at h
  obtain ⟨f, _, h⟩ := h
  rw [Bool.and_eq_true, Bool.and_eq_true, List.all_eq_true, inL_iff] at h
  exact inL_iff.1 (h.1.2 _ h.2)

/-! ### the greatest closure inside, again -/
def inkL (xss : List (List Int)) (l : List Int) : List Int := sel (insS xss (inL l) xss.length) xss.length
theorem insS_sub {xss : List (List Int)} {p : Int → Bool} : ∀ {k : Nat} {y : Int}, insS xss p k y = true → p y = true
  | 0, y, h => h
  | k + 1, y, h => by
    unfold insS at h
    split at h
    · rename_i e
      rw [Bool.and_eq_true] at h
      rw [e]
      exact insS_sub h.1
    · exact insS_sub h
theorem insS_farX (xss : List (List Int)) (p : Int → Bool) (y : Int) : ∀ (k m : Nat), (∀ j : Nat, k ≤ j → j < k + m → y ≠ (j : Int)) → insS xss p (k + m) y = insS xss p k y
  | k, 0, _ => rfl
  | k, m + 1, h => by
    show (if y = ((k + m : Nat) : Int) then _ else insS xss p (k + m) y) = _
    rw [if_neg (h (k + m) (by omega) (by omega))]
    exact insS_farX xss p y k m fun j h1 h2 => h j h1 (by omega)
theorem insS_endX {xss : List (List Int)} (ha : arcB xss = true) (p : Int → Bool) {i : Nat} (hi : i < xss.length) (h : insS xss p xss.length i = true) : ∀ y, y ∈ xss.getD i [] → insS xss p xss.length y = true := by
  have e1 := insS_farX xss p i (i + 1) (xss.length - (i + 1)) (fun j h2 h3 => by omega)
  rw [show i + 1 + (xss.length - (i + 1)) = xss.length by omega] at e1
  rw [e1] at h
  unfold insS at h
  rw [if_pos rfl, Bool.and_eq_true, List.all_eq_true] at h
  intro y hy
  have hb := arc_mem ha hi hy
  have := insS_farX xss p y i (xss.length - i) (fun j h2 h3 => by omega)
  rw [show i + (xss.length - i) = xss.length by omega] at this
  rw [this]
  exact h.2 y hy
theorem ink_mem {xss : List (List Int)} {l : List Int} {x : Int} : x ∈ inkL xss l ↔ (0 ≤ x ∧ x < (xss.length : Int)) ∧ insS xss (inL l) xss.length x = true := by
  unfold inkL
  rw [mem_sel]
  unfold inr
  rw [Bool.and_eq_true, decide_eq_true_eq]
theorem ink_sub {xss : List (List Int)} {l : List Int} : ∀ x, x ∈ inkL xss l → x ∈ l := fun x hx => inL_iff.1 (insS_sub (ink_mem.1 hx).2)
theorem ink_good {xss : List (List Int)} (ha : arcB xss = true) (l : List Int) : gB xss (inkL xss l) = true := by
  refine gB_iff.2 ⟨⟨ha, sel_risB _ rfl⟩, ?_⟩
  unfold closB
  rw [List.all_eq_true]
  intro i hi
  obtain ⟨⟨i0, i1⟩, h⟩ := ink_mem.1 hi
  obtain ⟨c, rfl⟩ := Int.eq_ofNat_of_zero_le i0
  rw [Int.toNat_natCast, List.all_eq_true]
  intro y hy
  have hb := arc_mem ha (i := c) (by omega) hy
  exact inL_iff.2 (ink_mem.2 ⟨by omega, insS_endX ha _ (by omega) h y hy⟩)
theorem insS_same {xss : List (List Int)} {p : Int → Bool} (hc : ∀ c : Nat, p (c : Int) = true → ∀ y, y ∈ xss.getD c [] → p y = true) : ∀ k, insS xss p k = p
  | 0 => rfl
  | k + 1 => by
    funext y
    unfold insS
    rw [insS_same hc k]
    split
    · rename_i e
      subst e
      cases h : p (k : Int)
      · rfl
      · rw [Bool.true_and, List.all_eq_true]
        exact hc k h
    · rfl
theorem ink_closed {xss : List (List Int)} {l : List Int} (h : gB xss l = true) : inkL xss l = l := by
  obtain ⟨⟨ha, hr⟩, hc⟩ := gB_iff.1 h
  unfold inkL
  rw [insS_same fun c hp y hy => ?_, sel_inL hr]
  unfold closB at hc
  rw [List.all_eq_true] at hc
  have := hc _ (inL_iff.1 hp)
  rw [List.all_eq_true, Int.toNat_natCast] at this
  exact this y hy

/-! ### trimmed pits -/
def trN (W G : List Int → List Int) : Nat → List Int → List Int
  | 0, l => l
  | n + 1, l => if (W l).length < l.length then trN W G n (G (W l)) else l
theorem tr_fuel {W G : List Int → List Int} (hG : ∀ l, (G l).length ≤ l.length) : ∀ (n m : Nat) (l : List Int), l.length ≤ n → l.length ≤ m → trN W G n l = trN W G m l
  | 0, 0, _, _, _ => rfl
  | 0, m + 1, l, h, _ => by
    unfold trN
    rw [if_neg (by omega)]
  | n + 1, 0, l, _, h => by
    unfold trN
    rw [if_neg (by omega)]
  | n + 1, m + 1, l, h1, h2 => by
    unfold trN
    split
    · have := hG (W l)
      exact tr_fuel hG n m _ (by omega) (by omega)
    · rfl
def trm (W G : List Int → List Int) (l : List Int) : List Int := trN W G l.length l
theorem tr_go {W G : List Int → List Int} (hG : ∀ l, (G l).length ≤ l.length) {l : List Int} (h : (W l).length < l.length) : trm W G l = trm W G (G (W l)) := by
  unfold trm
  rw [tr_fuel hG l.length (l.length + 1) l (Nat.le_refl _) (by omega)]
  have := hG (W l)
  rw [trN, if_pos h]
  exact tr_fuel hG _ _ _ (by omega) (Nat.le_refl _)
theorem tr_end {W G : List Int → List Int} {l : List Int} (h : ¬ (W l).length < l.length) : trm W G l = l := by
  unfold trm
  cases l.length with
  | zero => rfl
  | succ n => rw [trN, if_neg h]
theorem ink_len (xss : List (List Int)) (ha : arcB xss = true) {l : List Int} (hl : risB xss.length l = true) : (inkL xss l).length ≤ l.length := by
  refine sub_len (N := xss.length) (sel_risB _ rfl) hl ?_
  rw [List.all_eq_true]
  exact fun x hx => inL_iff.2 (ink_sub x hx)
/-- The blocks that are wide, and the greatest closure of blocks inside. -/
structure TrimOk (X Y Z : Int) (w : Nat) (xss : List (List Int)) : Prop where
  arcs : arcB xss = true
  good : goodB X Y Z = true
  size : (xss.length : Int) = X * Y * Z
  w1 : 1 ≤ w
  w3 : w ≤ 3
theorem TrimOk.N {X Y Z : Int} {w : Nat} {xss : List (List Int)} (h : TrimOk X Y Z w xss) : (X * Y * Z).toNat = xss.length := by have := h.size; omega
theorem TrimOk.wris {X Y Z : Int} {w : Nat} {xss : List (List Int)} (h : TrimOk X Y Z w xss) (l : List Int) : risB xss.length (wiL X Y Z w l) = true := by
  unfold wiL
  rw [h.N]
  exact sel_risB _ rfl
theorem TrimOk.wlen {X Y Z : Int} {w : Nat} {xss : List (List Int)} (h : TrimOk X Y Z w xss) {l : List Int} (hl : risB xss.length l = true) : (wiL X Y Z w l).length ≤ l.length := by
  refine sub_len (h.wris l) hl ?_
  rw [List.all_eq_true]
  exact fun x hx => inL_iff.2 (wi_sub x hx)
theorem TrimOk.wsame {X Y Z : Int} {w : Nat} {xss : List (List Int)} (h : TrimOk X Y Z w xss) {l : List Int} (hl : risB xss.length l = true) (hn : ¬ (wiL X Y Z w l).length < l.length) : wiL X Y Z w l = l := by
  refine sub_eq (h.wris l) hl ?_ (by omega)
  rw [List.all_eq_true]
  exact fun x hx => inL_iff.2 (wi_sub x hx)
/-- Trimming, over lists whose wide blocks are put in range. -/
def trS (X Y Z : Int) (w : Nat) (xss : List (List Int)) (l : List Int) : List Int := trm (wiL X Y Z w) (fun m => if risB xss.length m = true then inkL xss m else []) l
theorem TrimOk.go {X Y Z : Int} {w : Nat} {xss : List (List Int)} (h : TrimOk X Y Z w xss) {l : List Int} (hl : (wiL X Y Z w l).length < l.length) : trS X Y Z w xss l = trS X Y Z w xss (inkL xss (wiL X Y Z w l)) := by
  unfold trS
  rw [tr_go (fun m => ?_) hl]
  · rw [if_pos (h.wris l)]
  · split
    · rename_i hm; exact ink_len xss h.arcs hm
    · simp
theorem TrimOk.stop {X Y Z : Int} {w : Nat} {xss : List (List Int)} (h : TrimOk X Y Z w xss) {l : List Int} (hl : ¬ (wiL X Y Z w l).length < l.length) : trS X Y Z w xss l = l := tr_end hl
theorem TrimOk.next_len {X Y Z : Int} {w : Nat} {xss : List (List Int)} (h : TrimOk X Y Z w xss) (l : List Int) : (inkL xss (wiL X Y Z w l)).length ≤ (wiL X Y Z w l).length := ink_len xss h.arcs (h.wris l)
/-- The model's test: the next list is as long as the last one. -/
theorem TrimOk.test {X Y Z : Int} {w : Nat} {xss : List (List Int)} (h : TrimOk X Y Z w xss) {l : List Int} (hg : gB xss l = true) : (inkL xss (wiL X Y Z w l)).length = l.length ↔ ¬ (wiL X Y Z w l).length < l.length := by
  have hr := (gB_iff.1 hg).1.2
  have h1 := h.next_len l
  have h2 := h.wlen hr
  constructor
  · intro e; omega
  · intro e
    rw [h.wsame hr e, ink_closed hg]
def triB (X Y Z W : Int) (xss : List (List Int)) (l : List Int) : Bool := goodB X Y Z && decide ((xss.length : Int) = X * Y * Z) && gB xss l && decide (1 ≤ W ∧ W ≤ 3)
theorem tri_ok {X Y Z W : Int} {xss : List (List Int)} {l : List Int} (h : triB X Y Z W xss l = true) : TrimOk X Y Z W.toNat xss ∧ gB xss l = true ∧ 1 ≤ W ∧ W ≤ 3 := by
  unfold triB at h
  simp only [Bool.and_eq_true, decide_eq_true_eq] at h
  obtain ⟨⟨⟨h1, h2⟩, h3⟩, h4, h5⟩ := h
  exact ⟨⟨(gB_iff.1 h3).1.1, h1, h2, by omega, by omega⟩, h3, h4, h5⟩
def triA (X Y Z W : Int) (xss : List (List Int)) (l : List Int) : List Int := if triB X Y Z W xss l = true then trS X Y Z W.toNat xss l else []
def asW (X Y Z W : Int) (l : List Int) : Bool := goodB X Y Z && risB (X * Y * Z) l && decide (1 ≤ W ∧ W ≤ 3)
def wiA (X Y Z W : Int) (l : List Int) : List Int := if asW X Y Z W l = true then wiL X Y Z W.toNat l else []
end Go.Proofs.Ytfpjodoimfbadaa
