/-
Plain: the nearest square, as the program and as the model find it.
Plain: a square's blocks increase, so that those outside a list are as many by marks as by the list.
Contracts: blocks outside a list, pits, phases, in the program.
Contracts: what one list has and another has not, in the model.
Contracts: the nearest square, in the model.
Contracts: the nearest square around a block, in the program.
Contracts: WidenPit, in the program.
Contracts: WidenPit, in the model.
-/
import Derived.Test.YtfpjodoimfbadaaXB
import Derived.Test.YtfpjodoimfbadaaXA
import Derived.Test.YtfpjodoimfbadaaNA
import Derived.Test.YtfpjodoimfbadaaR4
import Derived.Test.YtfpjodoimfbadaaNH
import Derived.Test.YtfpjodoimfbadaaTPb
import Derived.Test.YtfpjodoimfbadaaZL
import Derived.Test.YtfpjodoimfbadaaLP
namespace Go.Proofs.Ytfpjodoimfbadaa
set_option linter.unusedVariables false

theorem sorted_ext : ∀ {a b : List Nat}, a.Pairwise (· < ·) → b.Pairwise (· < ·) → (∀ x, x ∈ a ↔ x ∈ b) → a = b
  | [], [], _, _, _ => rfl
  | [], y :: b, _, _, h => by have := (h y).2 (List.mem_cons_self ..); cases this
  | x :: a, [], _, _, h => by have := (h x).1 (List.mem_cons_self ..); cases this
  | x :: a, y :: b, ha, hb, h => by
    obtain ⟨h1, h2⟩ := List.pairwise_cons.1 ha
    obtain ⟨k1, k2⟩ := List.pairwise_cons.1 hb
    have e : x = y := by
      rcases List.mem_cons.1 ((h x).1 (List.mem_cons_self ..)) with e | e
      · exact e
      · rcases List.mem_cons.1 ((h y).2 (List.mem_cons_self ..)) with f | f
        · exact f.symm
        · have := k1 x e; have := h1 y f; omega
    subst e
    congr 1
    refine sorted_ext h2 k2 fun z => ⟨fun hz => ?_, fun hz => ?_⟩
    · rcases List.mem_cons.1 ((h z).1 (List.mem_cons_of_mem _ hz)) with e | e
      · have := h1 z hz; omega
      · exact e
    · rcases List.mem_cons.1 ((h z).2 (List.mem_cons_of_mem _ hz)) with e | e
      · have := k1 z hz; omega
      · exact e
theorem filter_range_map {N n : Nat} {p : Nat → Bool} {g : Nat → Nat} (hm : ∀ a b, a < b → b < n → g a < g b) (hin : ∀ f, f < n → g f < N ∧ p (g f) = true) (hof : ∀ k, k < N → p k = true → ∃ f, f < n ∧ g f = k) : (List.range N).filter p = (List.range n).map g := by
  refine sorted_ext (List.Pairwise.filter _ List.pairwise_lt_range) ?_ fun x => ?_
  · rw [List.pairwise_map]
    refine List.Pairwise.imp_of_mem ?_ (List.pairwise_lt_range (n := n))
    intro a b ha hb hab
    exact hm a b hab (List.mem_range.1 hb)
  · rw [List.mem_filter, List.mem_range, List.mem_map]
    constructor
    · rintro ⟨h1, h2⟩
      obtain ⟨f, hf, e⟩ := hof x h1 h2
      exact ⟨f, List.mem_range.2 hf, e⟩
    · rintro ⟨f, hf, rfl⟩
      exact hin f (List.mem_range.1 hf)

/-- The program's choice among the first squares around a block. -/
def nsP (S : Nat → List Int) (l : List Int) : Nat → List Int × Nat
  | 0 => ([], 120)
  | m + 1 => if (lessL (S m) l).length < (nsP S l m).2 then (S m, (lessL (S m) l).length) else nsP S l m
/-- The model's choice: a step. -/
def fwT (l : List Int) (st : List Int × Int) (s : List Int) : List Int × Int := if st.2 < 0 ∨ ((lessL s l).length : Int) < st.2 then (s, ((lessL s l).length : Int)) else st
def fwP (F : Nat → List Int) (l : List Int) (i : Int) : Nat → List Int × Int
  | 0 => ([], -1)
  | m + 1 => if inL (F m) i then fwT l (fwP F l i m) (F m) else fwP F l i m
theorem fw_fold (F : Nat → List Int) (l : List Int) (i : Int) : ∀ m, fwP F l i m = ((List.range m).filter fun f => inL (F f) i).foldl (fun st f => fwT l st (F f)) ([], -1)
  | 0 => rfl
  | m + 1 => by
    rw [List.range_succ, List.filter_append, List.foldl_append, ← fw_fold F l i m]
    show (if inL (F m) i then _ else _) = _
    cases h : inL (F m) i <;> simp [h]
/-- Both choose the same of the same squares: all are nearer than 120 blocks. -/
theorem ns_fold (S : Nat → List Int) (l : List Int) {n : Nat} (hS : ∀ f, f < n → (lessL (S f) l).length < 120) : ∀ m, m ≤ n → 
    ((List.range m).foldl (fun st f => fwT l st (S f)) ([], -1)).1 = (nsP S l m).1 ∧ (m = 0 → ((List.range m).foldl (fun st f => fwT l st (S f)) ([], -1)).2 = -1) ∧ (0 < m → ((List.range m).foldl (fun st f => fwT l st (S f)) ([], -1)).2 = ((nsP S l m).2 : Int) ∧ (nsP S l m).2 < 120)
  | 0, _ => ⟨rfl, fun _ => rfl, fun h => absurd h (by omega)⟩
  | m + 1, hm => by
    obtain ⟨h1, h2, h3⟩ := ns_fold S l hS m (by omega)
    have hb := hS m (by omega)
    rw [List.range_succ, List.foldl_append]
    simp only [List.foldl_cons, List.foldl_nil]
    generalize (List.range m).foldl (fun st f => fwT l st (S f)) ([], -1) = st at *
    unfold fwT
    show _ ∧ (m + 1 = 0 → _) ∧ _
    have e : nsP S l (m + 1) = if (lessL (S m) l).length < (nsP S l m).2 then (S m, (lessL (S m) l).length) else nsP S l m := rfl
    rw [e]
    by_cases hz : m = 0
    · subst hz
      have h2' : (nsP S l 0).2 = 120 := rfl
      have hs2 : st.2 < 0 := by have := h2 rfl; omega
      rw [if_pos (Or.inl hs2), if_pos (by omega)]
      exact ⟨rfl, fun h => absurd h (by omega), fun _ => ⟨rfl, hb⟩⟩
    · obtain ⟨k1, k2⟩ := h3 (by omega)
      by_cases hc : (lessL (S m) l).length < (nsP S l m).2
      · rw [if_pos (Or.inr (by omega)), if_pos hc]
        exact ⟨rfl, fun h => absurd h (by omega), fun _ => ⟨rfl, hb⟩⟩
      · rw [if_neg (by omega), if_neg hc]
        exact ⟨h1, fun h => absurd h (by omega), fun _ => ⟨k1, k2⟩⟩
theorem nb_lt {X Y z a b a' b' : Int} (hX : 1 ≤ X) (ha : a < X) (ha' : 0 ≤ a') (h : b < b' ∨ b = b' ∧ a < a') : nbI X Y a b z < nbI X Y a' b' z := by
  unfold nbI
  rcases h with h | ⟨rfl, h⟩
  · have := Int.mul_le_mul_of_nonneg_right (show z * Y + b + 1 ≤ z * Y + b' by omega) (show 0 ≤ X by omega)
    rw [Int.add_mul, Int.one_mul] at this
    omega
  · omega
/-- The first blocks of the squares around a block. -/
def arF (X Y : Int) (w : Nat) (i : Int) (f : Nat) : Nat := (nbI X Y (fsI (i % X) w + (f % cnI (i % X) X w : Nat)) (fsI (i / X % Y) w + (f / cnI (i % X) X w : Nat)) (i / X / Y)).toNat
theorem arF_at {X Y Z : Int} {w : Nat} {i : Int} (hx : 1 ≤ X) (hy : 1 ≤ Y) (hi0 : 0 ≤ i) (hi1 : i < X * Y * Z) {f : Nat} (h : f < arN X Y w i) :
    arF X Y w i f < (X * Y * Z).toNat ∧ sqF X Y w (arF X Y w i f : Nat) = arS X Y w i f ∧ inL (arS X Y w i f) i = true := by
  obtain ⟨⟨a0, a1⟩, ⟨b0, b1⟩, c0, c1⟩ := at_coords (X := X) (Y := Y) (Z := Z) hx hy hi0 hi1
  obtain ⟨h1, h2⟩ := ar_split h
  have k1 := cn_at a0 h1
  have k2 := cn_at b0 h2
  unfold arF arS
  generalize fsI (i % X) w + (f % cnI (i % X) X w : Nat) = x at *
  generalize fsI (i / X % Y) w + (f / cnI (i % X) X w : Nat) = y at *
  have hw : 1 ≤ w := by omega
  have bx := nb_box (X := X) (Y := Y) (Z := Z) (a := x) (b := y) (c := i / X / Y) (by omega) (by omega) (by omega) (by omega) c0 c1
  refine ⟨by omega, ?_, ?_⟩
  · rw [Int.toNat_of_nonneg bx.1]
    unfold sqF
    rw [nb_x (by omega) (by omega), nb_y (by omega) (by omega) (by omega) (by omega), nb_z (by omega) (by omega) (by omega) (by omega), if_neg (by omega)]
  · rw [inL_iff]
    unfold sqB
    rw [sq_mem]
    refine ⟨(i / X % Y - y).toNat, (i % X - x).toNat, by omega, by omega, ?_⟩
    unfold sqE
    rw [show x + ((i % X - x).toNat : Int) = i % X by omega, show y + ((i / X % Y - y).toNat : Int) = i / X % Y by omega, nb_back]
theorem arF_of {X Y Z : Int} {w : Nat} {i : Int} (hx : 1 ≤ X) (hy : 1 ≤ Y) (hi0 : 0 ≤ i) (hi1 : i < X * Y * Z) {F : Nat} (hF' : F < (X * Y * Z).toNat) (hm : inL (sqF X Y w (F : Int)) i = true) : ∃ f, f < arN X Y w i ∧ arF X Y w i f = F := by
  rw [inL_iff] at hm
  obtain ⟨⟨p0, p1⟩, ⟨q0, q1⟩, r0, r1⟩ := at_coords (X := X) (Y := Y) (Z := Z) (i := (F : Int)) hx hy (by omega) (by omega)
  have hback := nb_back (X := X) (Y := Y) (i := (F : Int))
  unfold sqF at hm
  split at hm
  · cases hm
  · rename_i hfit
    unfold sqB at hm
    rw [sq_mem] at hm
    obtain ⟨dy, dx, hdy, hdx, hk⟩ := hm
    unfold sqE at hk
    obtain ⟨x, hxe⟩ : ∃ x, (F : Int) % X = x := ⟨_, rfl⟩
    obtain ⟨y, hye⟩ : ∃ y, (F : Int) / X % Y = y := ⟨_, rfl⟩
    obtain ⟨z, hze⟩ : ∃ z, (F : Int) / X / Y = z := ⟨_, rfl⟩
    rw [hxe, hye, hze] at hk hback
    rw [hxe] at p0 p1 hfit
    rw [hye] at q0 q1 hfit
    have ex : i % X = x + dx := by rw [hk]; exact nb_x (by omega) (by omega)
    have ey : i / X % Y = y + dy := by rw [hk]; exact nb_y (by omega) (by omega) (by omega) (by omega)
    have ez : i / X / Y = z := by rw [hk]; exact nb_z (by omega) (by omega) (by omega) (by omega)
    obtain ⟨m1, m2⟩ := cn_of (p := i % X) (S := X) (x := x) (w := w) p0 (by omega) (by omega) (by omega)
    obtain ⟨m3, m4⟩ := cn_of (p := i / X % Y) (S := Y) (x := y) (w := w) q0 (by omega) (by omega) (by omega)
    have n0 : 0 < cnI (i % X) X w := by omega
    refine ⟨(y - fsI (i / X % Y) w).toNat * cnI (i % X) X w + (x - fsI (i % X) w).toNat, ?_, ?_⟩
    · unfold arN
      have := Nat.mul_le_mul_right (cnI (i % X) X w) (show (y - fsI (i / X % Y) w).toNat + 1 ≤ cnI (i / X % Y) Y w by omega)
      rw [Nat.succ_mul] at this
      omega
    · unfold arF
      rw [Nat.mul_comm (y - fsI (i / X % Y) w).toNat, Nat.mul_add_mod, Nat.mod_eq_of_lt m2, Nat.mul_add_div n0, Nat.div_eq_of_lt m2, Nat.add_zero, ez]
      rw [show fsI (i % X) w + ((x - fsI (i % X) w).toNat : Int) = x by omega, show fsI (i / X % Y) w + ((y - fsI (i / X % Y) w).toNat : Int) = y by omega, hback]
      omega
theorem arF_lt {X Y Z : Int} {w : Nat} {i : Int} (hx : 1 ≤ X) (hy : 1 ≤ Y) (hi0 : 0 ≤ i) (hi1 : i < X * Y * Z) {a b : Nat} (hab : a < b) (hb : b < arN X Y w i) : arF X Y w i a < arF X Y w i b := by
  obtain ⟨⟨a0, a1⟩, ⟨b0, b1⟩, c0, c1⟩ := at_coords (X := X) (Y := Y) (Z := Z) hx hy hi0 hi1
  obtain ⟨h1, h2⟩ := ar_split (show a < arN X Y w i by omega)
  obtain ⟨h3, h4⟩ := ar_split hb
  have k1 := cn_at a0 h1
  have k2 := cn_at b0 h2
  have k3 := cn_at a0 h3
  have k4 := cn_at b0 h4
  have hw : 1 ≤ w := by omega
  have e1 := Nat.div_add_mod a (cnI (i % X) X w)
  have e2 := Nat.div_add_mod b (cnI (i % X) X w)
  have hd : a / cnI (i % X) X w ≤ b / cnI (i % X) X w := Nat.div_le_div_right (by omega)
  have hcase : a / cnI (i % X) X w < b / cnI (i % X) X w ∨ a / cnI (i % X) X w = b / cnI (i % X) X w ∧ a % cnI (i % X) X w < b % cnI (i % X) X w := by
    rcases Nat.lt_or_ge (a / cnI (i % X) X w) (b / cnI (i % X) X w) with h | h
    · exact .inl h
    · have e : a / cnI (i % X) X w = b / cnI (i % X) X w := Nat.le_antisymm hd h
      rw [e] at e1
      exact .inr ⟨e, by omega⟩
  have bx := nb_box (X := X) (Y := Y) (Z := Z) (a := fsI (i % X) w + (a % cnI (i % X) X w : Nat)) (b := fsI (i / X % Y) w + (a / cnI (i % X) X w : Nat)) (c := i / X / Y) (by omega) (by omega) (by omega) (by omega) c0 c1
  have hlt := nb_lt (X := X) (Y := Y) (z := i / X / Y) (a := fsI (i % X) w + (a % cnI (i % X) X w : Nat)) (b := fsI (i / X % Y) w + (a / cnI (i % X) X w : Nat)) (a' := fsI (i % X) w + (b % cnI (i % X) X w : Nat)) (b' := fsI (i / X % Y) w + (b / cnI (i % X) X w : Nat)) hx (by omega) (by omega) (by omega)
  unfold arF
  omega
/-- The model's choice among all squares is the program's among those around the block. -/
theorem near_eq {X Y Z : Int} {w : Nat} {l : List Int} {i : Int} (hx : 1 ≤ X) (hy : 1 ≤ Y) (hi0 : 0 ≤ i) (hi1 : i < X * Y * Z) (hS : ∀ f, f < arN X Y w i → (lessL (arS X Y w i f) l).length < 120) :
    (fwP (fun F => sqF X Y w (F : Int)) l i (X * Y * Z).toNat).1 = (nsP (arS X Y w i) l (arN X Y w i)).1 := by
  rw [fw_fold, filter_range_map (n := arN X Y w i) (g := arF X Y w i) (fun a b hab hb => arF_lt hx hy hi0 hi1 hab hb) (fun f hf => ?_) (fun k hk hp => arF_of hx hy hi0 hi1 hk hp), List.foldl_map]
  · rw [← (ns_fold (arS X Y w i) l hS _ (Nat.le_refl _)).1]
    have : ∀ (m : Nat) (st : List Int × Int), m ≤ arN X Y w i → (List.range m).foldl (fun st f => fwT l st (sqF X Y w ((arF X Y w i f : Nat) : Int))) st = (List.range m).foldl (fun st f => fwT l st (arS X Y w i f)) st := by
      intro m st hm
      induction m with
      | zero => rfl
      | succ m ih =>
        rw [List.range_succ, List.foldl_append, List.foldl_append, ih (by omega)]
        simp only [List.foldl_cons, List.foldl_nil]
        rw [(arF_at hx hy hi0 hi1 (show m < arN X Y w i by omega)).2.1]
    rw [this _ _ (Nat.le_refl _)]
  · obtain ⟨h1, h2, h3⟩ := arF_at hx hy hi0 hi1 hf
    exact ⟨h1, by rw [h2]; exact h3⟩
/-- A list widened while it is not wide, by fuel. -/
def wdN (W G : List Int → List Int) : Nat → List Int → List Int
  | 0, l => l
  | n + 1, l => if (W l).length < l.length then wdN W G n (G l) else l
theorem wd_fuel {W G : List Int → List Int} {N : Nat} {P : List Int → Prop} (hP : ∀ l, P l → l.length ≤ N) (hG : ∀ l, P l → (W l).length < l.length → P (G l) ∧ l.length < (G l).length) : ∀ (n m : Nat) (l : List Int), P l → N - l.length ≤ n → N - l.length ≤ m → wdN W G n l = wdN W G m l
  | 0, 0, l, _, _, _ => rfl
  | 0, m + 1, l, hl, h1, _ => by
    unfold wdN
    split
    · rename_i h
      obtain ⟨h2, h3⟩ := hG l hl h
      have := hP _ h2
      omega
    · rfl
  | n + 1, 0, l, hl, _, h1 => by
    conv => lhs; unfold wdN
    split
    · rename_i h
      obtain ⟨h2, h3⟩ := hG l hl h
      have := hP _ h2
      omega
    · rfl
  | n + 1, m + 1, l, hl, h1, h2 => by
    unfold wdN
    split
    · rename_i h
      obtain ⟨k1, k2⟩ := hG l hl h
      exact wd_fuel hP hG n m (G l) k1 (by omega) (by omega)
    · rfl
def wdn (N : Nat) (W G : List Int → List Int) (l : List Int) : List Int := wdN W G (N - l.length) l
theorem wd_end {W G : List Int → List Int} {N : Nat} {l : List Int} (h : ¬ (W l).length < l.length) : wdn N W G l = l := by
  unfold wdn
  cases N - l.length with
  | zero => rfl
  | succ n => unfold wdN; rw [if_neg h]
theorem wd_go {W G : List Int → List Int} {N : Nat} {P : List Int → Prop} (hP : ∀ l, P l → l.length ≤ N) (hG : ∀ l, P l → (W l).length < l.length → P (G l) ∧ l.length < (G l).length) {l : List Int} (hl : P l) (h : (W l).length < l.length) : wdn N W G l = wdn N W G (G l) := by
  obtain ⟨h2, h3⟩ := hG l hl h
  have := hP _ h2
  unfold wdn
  obtain ⟨m, hm⟩ : ∃ m, N - l.length = m + 1 := ⟨N - l.length - 1, by omega⟩
  rw [hm]
  conv => lhs; unfold wdN
  rw [if_pos h]
  exact wd_fuel hP hG m (N - (G l).length) (G l) h2 (by omega) (Nat.le_refl _)
theorem ns_at {S : Nat → List Int} {l : List Int} : ∀ n, 0 < n → (∀ f, f < n → (lessL (S f) l).length < 120) → ∃ f, f < n ∧ (nsP S l n).1 = S f
  | 0, h, _ => absurd h (by omega)
  | m + 1, _, hS => by
    unfold nsP
    split
    · exact ⟨m, by omega, rfl⟩
    · rename_i hc
      have hm : 0 < m := by
        rcases Nat.eq_zero_or_pos m with e | e
        · subst e
          exact absurd (hS 0 (by omega)) hc
        · exact e
      obtain ⟨f, hf, e⟩ := ns_at m hm fun f hf => hS f (by omega)
      exact ⟨f, by omega, e⟩
theorem sub_strict {N : Int} {a b : List Int} (ha : risB N a = true) (hb : risB N b = true) (h : ∀ x, x ∈ a → x ∈ b) {x : Int} (hx : x ∈ b) (hn : x ∉ a) : a.length < b.length := by
  have e : a = b.filter (inL a) := rising_ext (ris_rising ha) ((ris_rising hb).sublist List.filter_sublist) fun y => by
    rw [List.mem_filter, inL_iff]
    exact ⟨fun h1 => ⟨h y h1, h1⟩, fun h1 => h1.2⟩
  have k := (List.length_filter_lt_length_iff_exists (p := inL a) (l := b)).2 ⟨x, hx, fun h => hn (inL_iff.1 h)⟩
  rwa [← e] at k
/-- The first block that is not wide, its nearest square, and the pit grown by it. -/
def narF (X Y Z : Int) (w : Nat) (l : List Int) : Int := (lessL l (wiL X Y Z w l)).getD 0 0
def nearL (X Y : Int) (w : Nat) (l : List Int) (i : Int) : List Int := (nsP (arS X Y w i) l (arN X Y w i)).1
def widG (X Y Z : Int) (w : Nat) (xss : List (List Int)) (l : List Int) : List Int := unC xss l (nearL X Y w l (narF X Y Z w l))
theorem nar_at {X Y Z : Int} {w : Nat} {xss : List (List Int)} {l : List Int} (T : TrimOk X Y Z w xss) (hr : risB xss.length l = true) (h : (wiL X Y Z w l).length < l.length) : narF X Y Z w l ∈ l ∧ narF X Y Z w l ∉ wiL X Y Z w l := by
  have hne : 0 < (lessL l (wiL X Y Z w l)).length := by
    rcases Nat.eq_zero_or_pos (lessL l (wiL X Y Z w l)).length with e | e
    · exfalso
      have hall : ∀ x, x ∈ l → x ∈ wiL X Y Z w l := fun x hx => by
        by_cases hm : x ∈ wiL X Y Z w l
        · exact hm
        · have : x ∈ lessL l (wiL X Y Z w l) := by
            unfold lessL
            rw [List.mem_filter]
            refine ⟨hx, ?_⟩
            cases hb : inL (wiL X Y Z w l) x
            · rfl
            · exact absurd (inL_iff.1 hb) hm
          rw [List.length_eq_zero_iff.1 e] at this
          cases this
      have := sub_len hr (T.wris l) (by rw [List.all_eq_true]; exact fun x hx => inL_iff.2 (hall x hx))
      omega
    · exact e
  have hm : narF X Y Z w l ∈ lessL l (wiL X Y Z w l) := by
    unfold narF
    rw [List.getD_eq_getElem?_getD, List.getElem?_eq_getElem hne]
    exact List.getElem_mem hne
  unfold lessL at hm
  rw [List.mem_filter] at hm
  refine ⟨hm.1, fun hc => ?_⟩
  have := hm.2
  rw [inL_iff.2 hc] at this
  cases this
theorem less_nine {X Y : Int} {w : Nat} {i : Int} {l : List Int} (hw : w ≤ 3) (f : Nat) : (lessL (arS X Y w i f) l).length < 120 := by
  have h1 := less_len (arS X Y w i f) l
  have h2 : (arS X Y w i f).length = w * w := sqB_len _ _ _ _ _ _
  have h3 := Nat.mul_le_mul hw hw
  omega
theorem arN_pos {X Y Z : Int} {w : Nat} {i : Int} (hx : 1 ≤ X) (hy : 1 ≤ Y) (hw : 1 ≤ w) (h1 : (w : Int) ≤ X) (h2 : (w : Int) ≤ Y) (hi0 : 0 ≤ i) (hi1 : i < X * Y * Z) : 0 < arN X Y w i := by
  obtain ⟨⟨a0, a1⟩, ⟨b0, b1⟩, c0, c1⟩ := at_coords (X := X) (Y := Y) (Z := Z) hx hy hi0 hi1
  refine Nat.mul_pos ?_ ?_
  · unfold cnI lsI fsI; omega
  · unfold cnI lsI fsI; omega
/-- A step of widening: a closure again, and longer. -/
theorem wid_step {X Y Z : Int} {w : Nat} {xss : List (List Int)} {l : List Int} (T : TrimOk X Y Z w xss) (h1 : (w : Int) ≤ X) (h2 : (w : Int) ≤ Y) (hg : gB xss l = true) (h : (wiL X Y Z w l).length < l.length) :
    gB xss (widG X Y Z w xss l) = true ∧ l.length < (widG X Y Z w xss l).length := by
  obtain ⟨⟨ha, hr⟩, hc⟩ := gB_iff.1 hg
  obtain ⟨hi, hni⟩ := nar_at T hr h
  obtain ⟨i, hie⟩ : ∃ i, narF X Y Z w l = i := ⟨_, rfl⟩
  have hN := T.N
  have hsz := T.size
  obtain ⟨x1, _, y1, _, _⟩ := good_true T.good
  have hib := ris_mem hr hi
  rw [hie] at hi hni hib
  obtain ⟨f, hf, hS⟩ := ns_at (S := arS X Y w i) (l := l) (arN X Y w i) (arN_pos (Z := Z) x1 y1 T.w1 h1 h2 hib.1 (by omega)) fun f _ => less_nine T.w3 f
  have hin := ar_in (X := X) (Y := Y) (Z := Z) x1 y1 hib.1 (by omega) hf
  rw [hN] at hin
  have hw : widG X Y Z w xss l = unC xss l (arS X Y w i f) := by unfold widG nearL; rw [hie, hS]
  rw [hw]
  have hgood := un_good ha (fun x hx => ris_mem hr hx) hin
  refine ⟨hgood, ?_⟩
  have hnot : ∃ x, x ∈ arS X Y w i f ∧ x ∉ l := by
    refine Classical.byContradiction fun hno => hni ?_
    have hall : (arS X Y w i f).all (inL l) = true := by
      rw [List.all_eq_true]
      intro x hx
      refine inL_iff.2 (Classical.byContradiction fun hx2 => hno ⟨x, hx, hx2⟩)
    have hw2 := wide_at (X := X) (Y := Y) (Z := Z) (w := w) (l := l) (k := i) x1 y1 T.w1 hib.1 (by omega)
    rw [inL_iff.2 hi, Bool.true_and] at hw2
    unfold wiL
    rw [mem_sel]
    unfold inr
    rw [Bool.and_eq_true, decide_eq_true_eq, ← hw2]
    refine ⟨by omega, ?_⟩
    unfold arB
    rw [List.any_eq_true]
    exact ⟨f, List.mem_range.2 hf, hall⟩
  obtain ⟨x, hx, hxl⟩ := hnot
  have hun : ∀ y, (y ∈ l ∨ y ∈ arS X Y w i f) → y ∈ unC xss l (arS X Y w i f) := fun y hy => by
    have hyb : 0 ≤ y ∧ y < (xss.length : Int) := by
      rcases hy with e | e
      · exact ris_mem hr e
      · exact hin y e
    obtain ⟨k, rfl⟩ := Int.eq_ofNat_of_zero_le hyb.1
    unfold unC
    rw [mem_sel]
    unfold inr
    rw [Bool.and_eq_true, decide_eq_true_eq]
    refine ⟨hyb, ?_⟩
    rw [dn_iff ha]
    refine Rch.base ?_
    unfold addL
    rw [Bool.or_eq_true]
    rcases hy with e | e
    · exact .inr (inL_iff.2 e)
    · exact .inl (by simpa using e)
  exact sub_strict hr (gB_iff.1 hgood).1.2 (fun y hy => hun y (.inl hy)) (hun x (.inr hx)) hxl
end Go.Proofs.Ytfpjodoimfbadaa

namespace Go.Proofs.Ytfpjodoimfbadaa
set_option linter.unusedVariables false

theorem ris_ofX {n : Int} {l : List Int} (h : l.Pairwise (· < ·)) (hm : ∀ x ∈ l, 0 ≤ x ∧ x < n) : risB n l = true := ris_true fun k hk => by
  have e : ∀ j, j < l.length → l.getD j 0 ∈ l := fun j hj => by
    rw [List.getD_eq_getElem?_getD, List.getElem?_eq_getElem hj]
    exact List.getElem_mem hj
  refine ⟨?_, (hm _ (e k hk)).2⟩
  match k, hk with
  | 0, hk =>
    have := (hm _ (e 0 hk)).1
    show (-1 : Int) < _
    omega
  | k + 1, hk =>
    show l.getD k 0 < _
    have h1 : k < l.length := by omega
    have := List.pairwise_iff_getElem.1 h k (k + 1) h1 hk (by omega)
    simpa [h1, hk] using this
theorem sq_pair {e : Nat → Nat → Int} {w : Nat} (h : ∀ i j i' j', (i < i' ∨ i = i' ∧ j < j') → i' < w → j < w → j' < w → e i j < e i' j') : ∀ m, m ≤ w → (sqL e w m 0).Pairwise (· < ·) ∧ ∀ x, x ∈ sqL e w m 0 → ∃ i j, i < m ∧ j < w ∧ x = e i j
  | 0, _ => ⟨List.Pairwise.nil, fun x hx => by cases hx⟩
  | m + 1, hm => by
    obtain ⟨h1, h2⟩ := sq_pair h m (by omega)
    have key : ∀ d, d ≤ w → (sqL e w m d).Pairwise (· < ·) ∧ ∀ x, x ∈ sqL e w m d → ∃ i j, (i < m ∨ i = m ∧ j < d) ∧ j < w ∧ x = e i j := by
      intro d
      induction d with
      | zero => exact fun _ => ⟨h1, fun x hx => by obtain ⟨i, j, a, b, c⟩ := h2 x hx; exact ⟨i, j, .inl a, b, c⟩⟩
      | succ d ih =>
        intro hd
        obtain ⟨k1, k2⟩ := ih (by omega)
        rw [sq_next]
        constructor
        · refine List.pairwise_append.2 ⟨k1, List.pairwise_singleton _ _, fun x hx y hy => ?_⟩
          obtain ⟨i, j, a, b, rfl⟩ := k2 x hx
          rw [List.mem_singleton.1 hy]
          exact h i j m d (by omega) (by omega) b (by omega)
        · intro x hx
          rcases List.mem_append.1 hx with hx | hx
          · obtain ⟨i, j, a, b, c⟩ := k2 x hx
            exact ⟨i, j, by omega, b, c⟩
          · rw [List.mem_singleton.1 hx]
            exact ⟨m, d, by omega, by omega, rfl⟩
    obtain ⟨k1, k2⟩ := key w (Nat.le_refl _)
    rw [← sq_row]
    exact ⟨k1, fun x hx => by obtain ⟨i, j, a, b, c⟩ := k2 x hx; exact ⟨i, j, by omega, b, c⟩⟩
theorem ar_ris {X Y Z : Int} {w : Nat} {i : Int} {f : Nat} (hx : 1 ≤ X) (hy : 1 ≤ Y) (hi0 : 0 ≤ i) (hi1 : i < X * Y * Z) (h : f < arN X Y w i) : risB (X * Y * Z).toNat (arS X Y w i f) = true := by
  refine ris_ofX ?_ (ar_in hx hy hi0 hi1 h)
  obtain ⟨h1, h2⟩ := ar_split h
  obtain ⟨⟨a0, a1⟩, ⟨b0, b1⟩, c0, c1⟩ := at_coords (X := X) (Y := Y) (Z := Z) hx hy hi0 hi1
  have k1 := cn_at a0 h1
  have k2 := cn_at b0 h2
  unfold arS sqB
  refine (sq_pair (fun i j i' j' hl hi' hj hj' => ?_) w (Nat.le_refl _)).1
  unfold sqE
  exact nb_lt hx (by omega) (by omega) (by omega)
theorem ar_less {X Y Z : Int} {w : Nat} {i : Int} {f : Nat} (l : List Int) (hx : 1 ≤ X) (hy : 1 ≤ Y) (hi0 : 0 ≤ i) (hi1 : i < X * Y * Z) (h : f < arN X Y w i) : (sel (lessP (arS X Y w i f) l) (X * Y * Z).toNat) = lessL (arS X Y w i f) l := (less_sel l (ar_ris hx hy hi0 hi1 h)).symm
end Go.Proofs.Ytfpjodoimfbadaa

namespace Go.Proofs.Ytfpjodoimfbadaa
open Go.RowKit
set_option linter.unusedVariables false

theorem take_hasX {X : List Int} {k : Nat} (hk : k < X.length) (y : Int) : (X.take (k + 1)).contains y = ((X.take k).contains y || (y == X.getD k 0)) := by
  have e : X.take (k + 1) = X.take k ++ [X.getD k 0] := by
    rw [List.take_add_one, List.getElem?_eq_getElem hk, List.getD_eq_getElem?_getD, List.getElem?_eq_getElem hk]
    rfl
  rw [e, Bool.eq_iff_iff]
  simp

set_option maxHeartbeats 4000000 in
theorem c_blocksOutside (N : Nat) (Y X : List Int) (v u : Value) (w : World) (hN : N ≤ 1000) (hY : InN N Y) (hX : InN N X) (l1 : Y.length ≤ 4000000) (l2 : X.length ≤ 4000000) (h : Seen w v Y) (hu : Seen w u X) :
    Calls Try.prog 28 #[v, u] w (GivesRow w (sel (lessP Y X) N)) := by
  have EC : Hid (∀ k, k < X.length → 0 ≤ X.getD k 0 ∧ X.getD k 0 < (N : Int)) := fun k hk => hX _ (getD_memN hk)
  obtain ⟨P, hP⟩ : ∃ P : Nat → Int → Bool, P = fun k y => inL Y y && !(X.take k).contains y := ⟨_, rfl⟩
  have P0 : Hid (P 0 = inL Y) := by rw [hP]; funext y; simp
  have PS : Hid (∀ k, k < X.length → (fun y => !(y == X.getD k 0) && P k y) = P (k + 1)) := fun k hk => by
    rw [hP]
    funext y
    show (!(y == X.getD k 0) && (inL Y y && !(X.take k).contains y)) = (inL Y y && !(X.take (k + 1)).contains y)
    rw [take_hasX hk]
    cases inL Y y <;> cases (X.take k).contains y <;> cases (y == X.getD k 0) <;> rfl
  have PE : Hid (P X.length = lessP Y X) := by rw [hP]; funext y; show (inL Y y && !(X.take X.length).contains y) = _; rw [List.take_length]; rfl
  have CM := Lib.hid (c_marksOf N Y v w l1 hN h hY)
  have HXs := Lib.hid hu
  obtain ⟨A, c, rfl⟩ := h.shape
  obtain ⟨A2, c2, rfl⟩ := hu.shape
  clear hP hY hX h hu
  rw [← PE.out]
  go_enter Try.func28, Try.ntmps28
  go_wp2_with fail
  refine CM.out.mono ?_
  rintro e w3 ⟨rfl, hm3, hb⟩
  rw [← P0.out] at hm3
  have HM := Lib.hid hm3
  have HB3 : Hid (Below w.heap.size w w3) := hb
  have hw3 : w.heap.size < w3.heap.size := hm3.lt
  clear hm3 hb
  go_wp2_with fail
  go_loopw [12] (fun i wr => ∃ k : Nat, k ≤ X.length ∧ i = .int .i64 k ∧ SetM wr w.heap.size N (P k) ∧ Below w.heap.size w wr) (fun i _ => X.length - (RowKit.intOf i).toNat)
  case atStart => exact ⟨0, Nat.zero_le _, rfl, HM.out, HB3.out⟩
  case round =>
    obtain ⟨k, hk, rfl, hm, hb⟩ := hrel
    have HMr := Lib.hid hm
    have HBr := Lib.hid hb
    clear hm hb
    by_cases hlt : k < X.length
    · obtain ⟨bX, oX, rfl, _, q0⟩ := (HXs.out.below HBr.out).at2 hlt
      obtain ⟨s0, s1⟩ := EC.out k hlt
      have G := Lib.hid (PS.out k hlt)
      have b1 : (0 : Int) ≤ (k : Int) := by omega
      have b2 : (k : Int) < (X.length : Int) := by omega
      generalize X.getD k 0 = x at *
      obtain ⟨w5, hrun, hm5, hg5⟩ := HMr.out.del x s0 s1 hN 0
      rw [G.out] at hm5
      have HM5 := Lib.hid hm5
      have HB5 : Hid (Below w.heap.size w w5) := HBr.out.grown hg5 HBr.out.size (fun k hk => by cases hk; exact Nat.le_refl _)
      clear hm5 hg5
      go_wp2
      go_roundw
      case rel => exact ⟨k + 1, by omega, by go_num, HM5.out, HB5.out⟩
      case measure => simp [RowKit.intOf]; omega
    · obtain rfl : k = X.length := by omega
      go_wp2_with fail
      refine (c_markedBlocks w.heap.size N (P X.length) _ hN HMr.out).mono ?_
      rintro e w6 ⟨q, rfl, hq, hb2⟩
      have HBx : Hid (Below w.heap.size w w6) := HBr.out.trans (hb2.mono HBr.out.size)
      have HQ := Lib.hid (hq.mono HBr.out.size)
      obtain ⟨A6, c6, rfl⟩ := hq.shape
      clear hq hb2
      go_wp2
      go_ret
      exact ⟨_, rfl, HQ.out, HBx.out⟩

end Go.Proofs.Ytfpjodoimfbadaa


namespace Go.Proofs.Ytfpjodoimfbadaa
open Go.RowKit
set_option linter.unusedVariables false

theorem hasI_in (xs : List Int) (x : Int) : hasI xs x = inL xs x := by
  unfold hasI inL
  rw [List.contains_eq_mem]
theorem c_hasL (ys : List Int) (x : Int) (v : Value) (w : World) (hl : ys.length ≤ 4000000) (h : Seen w v ys) :
    Calls Try.prog 35 #[v, .int .i64 x] w fun e w' => e = .returned (.bool (inL ys x)) ∧ w = w' := by
  have := c_l1Has ys x v w hl h
  rwa [hasI_in] at this

theorem less_yes {a b : List Int} {k : Nat} (hk : k < a.length) (h : inL b (a.getD k 0) = false) : lessL (a.take (k + 1)) b = lessL (a.take k) b ++ [a.getD k 0] := by
  unfold lessL
  rw [List.take_succ_eq_append_getElem hk, List.filter_append, show a[k] = a.getD k 0 by simp [hk]]
  simp only [List.filter_cons, h, Bool.not_false, if_true, List.filter_nil]
theorem less_no {a b : List Int} {k : Nat} (hk : k < a.length) (h : inL b (a.getD k 0) = true) : lessL (a.take (k + 1)) b = lessL (a.take k) b := by
  unfold lessL
  rw [List.take_succ_eq_append_getElem hk, List.filter_append, show a[k] = a.getD k 0 by simp [hk]]
  simp only [List.filter_cons, h, Bool.not_true, List.filter_nil]
  simp

set_option maxHeartbeats 4000000 in
theorem c_phLess (a b : List Int) (v u : Value) (w : World) (l1 : a.length ≤ 4000000) (l2 : b.length ≤ 4000000) (h : Seen w v a) (hu : Seen w u b) :
    Calls Try.prog 18 #[v, u] w (GivesRow w (lessL a b)) := by
  obtain ⟨i0, hi0, hz0, hz1, hz2⟩ := info_parts int_info
  have HI := Lib.hid hi0
  clear hi0
  have CH : Hid (∀ (x : Int) (w1 : World), Below w.heap.size w w1 → Calls Try.prog 35 #[u, .int .i64 x] w1 fun e w' => e = .returned (.bool (inL b x)) ∧ w1 = w') := fun x w1 hb => c_hasL b x u w1 l2 (hu.below hb)
  have HC := Lib.hid h
  obtain ⟨A, c, rfl⟩ := h.shape
  obtain ⟨A2, c2, rfl⟩ := hu.shape
  have EY : Hid (∀ k, k < a.length → inL b (a.getD k 0) = false → lessL (a.take (k + 1)) b = lessL (a.take k) b ++ [a.getD k 0]) := fun k hk h => less_yes hk h
  have EN : Hid (∀ k, k < a.length → inL b (a.getD k 0) = true → lessL (a.take (k + 1)) b = lessL (a.take k) b) := fun k hk h => less_no hk h
  have E0 : Hid (lessL (a.take 0) b = []) := rfl
  have EA : Hid (lessL (a.take a.length) b = lessL a b) := by show _ = _; rw [List.take_length]
  have EL : Hid (∀ k, (lessL (a.take k) b).length ≤ a.length) := fun k => Nat.le_trans (less_len _ _) (by rw [List.length_take]; omega)
  rw [← EA.out]
  clear h hu EA
  obtain ⟨O, hO⟩ : ∃ O : Nat → List Int, (fun k => lessL (a.take k) b) = O := ⟨_, rfl⟩
  have HO : Hid (∀ k, lessL (a.take k) b = O k) := fun k => congrFun hO k
  simp only [HO.out] at EY EN E0 EL
  rw [HO.out]
  clear hO HO
  generalize inL b = p at *
  go_enter Try.func18, Try.ntmps18
  go_wp2_with fail
  go_loopw [5, 10] (fun q i wr => ∃ k : Nat, k ≤ a.length ∧ i = .int .i64 k ∧ Row wr w.heap.size q (O k) ∧ Below w.heap.size w wr) (fun _ i _ => a.length - (RowKit.intOf i).toNat)
  case atStart => exact ⟨0, Nat.zero_le _, rfl, by rw [E0.out]; exact Row.nil _ _, Below.refl _ _⟩
  case round =>
    obtain ⟨k, hk, rfl, hrw, hb⟩ := hrel
    have HR := Lib.hid hrw
    have HB := Lib.hid hb
    clear hrw hb
    by_cases hlt : k < a.length
    · obtain ⟨bb, off, rfl, _, q1⟩ := (HC.out.below HB.out).at2 hlt
      have b1 : (0 : Int) ≤ (k : Int) := by omega
      have b2 : (k : Int) < (a.length : Int) := by omega
      have HEY := Lib.hid (EY.out k hlt)
      have HEN := Lib.hid (EN.out k hlt)
      have hLn := EL.out k
      have HCx := Lib.hid (CH.out (a.getD k 0) wr HB.out)
      have sw := HB.out.size
      generalize a.getD k 0 = t at *
      cases hx : p t
      · have G := Lib.hid (HEY.out hx)
        rw [hx] at HCx
        clear hx
        go_wp2_with fail
        refine HCx.out.mono ?_
        rintro e w2 ⟨rfl, rfl⟩
        go_wp2_with (at_builtin; refine wpList_append_own _ rfl _ _ 25 rfl (w.heap.size) 3 i0 (.int .i64 0) 1 8 Try.underlying25 HI.out hz0 hz1 hz2 rfl (by decide) _ _ _ rfl (World.ownsRow.alloc HR.out _) ⟨wr.heap.size, 0, none⟩ 1 1 [.int .i64 t] rfl rfl ?c1 ?c2 ?c3 ?c4 ?c5 ?_)
        case c1 =>
          intro jj u hjj
          match jj, hjj with
          | 0, hjj => simp at hjj; subst hjj; simp [Addr.add]
        case c2 => intro u hu; simp at hu; subst hu; rfl
        case c3 => unfold maxLen; omega
        case c4 => omega
        case c5 => simp; omega
        intro v' w5 hown' hgrow _
        have R1 : Hid (Row w5 w.heap.size v' (O (k + 1))) := by rw [G.out]; exact row_more hown'
        have R2 : Hid (Below w.heap.size w w5) := (HB.out.alloc sw _).grown hgrow (by simp; omega) (fun g hg => (World.ownsRow.lt HR.out g hg).1)
        clear hown' hgrow
        go_wp2
        go_roundw
        case rel => exact ⟨k + 1, by omega, by go_num, R1.out, R2.out⟩
        case measure => simp [RowKit.intOf]; omega
      · have G := Lib.hid (HEN.out hx)
        rw [hx] at HCx
        clear hx
        go_wp2_with fail
        refine HCx.out.mono ?_
        rintro e w2 ⟨rfl, rfl⟩
        go_wp2
        go_roundw
        case rel => exact ⟨k + 1, by omega, by go_num, by rw [G.out]; exact HR.out, HB.out⟩
        case measure => simp [RowKit.intOf]; omega
    · obtain rfl : k = a.length := by omega
      go_wp2
      go_ret
      exact ⟨_, rfl, HR.out, HB.out⟩

end Go.Proofs.Ytfpjodoimfbadaa

namespace Go.Proofs.Ytfpjodoimfbadaa
open Go.RowKit
set_option linter.unusedVariables false

theorem fw_len {F : Nat → List Int} {l : List Int} {i : Int} (hF : ∀ k, (F k).length ≤ 9) : ∀ m, (fwP F l i m).1.length ≤ 9 ∧ -1 ≤ (fwP F l i m).2 ∧ (fwP F l i m).2 ≤ 9
  | 0 => ⟨by simp [fwP], by simp [fwP], by simp [fwP]⟩
  | m + 1 => by
    have ih := fw_len (l := l) (i := i) hF m
    have h1 := less_len (F m) l
    have h2 := hF m
    show ((if inL (F m) i then fwT l (fwP F l i m) (F m) else fwP F l i m).1.length ≤ 9 ∧ -1 ≤ (if inL (F m) i then fwT l (fwP F l i m) (F m) else fwP F l i m).2 ∧ (if inL (F m) i then fwT l (fwP F l i m) (F m) else fwP F l i m).2 ≤ 9)
    split
    · unfold fwT
      split
      · exact ⟨h2, by show (-1 : Int) ≤ ((lessL (F m) l).length : Int); omega, by show ((lessL (F m) l).length : Int) ≤ 9; omega⟩
      · exact ih
    · exact ih

set_option maxHeartbeats 8000000 in
set_option maxRecDepth 100000 in
theorem c_phFewest (x y z i : Int) (d : Nat) (l : List Int) (u : Value) (w : World) (hg : goodB x y z = true) (hd : d ≤ 3) (h0 : 0 ≤ i) (h1 : i < x * y * z) (hl : l.length ≤ 4000000) (hs : Seen w u l) :
    Calls Try.prog 20 #[.agg #[.int .i64 x, .int .i64 y, .int .i64 z], u, .int .i64 i, .int .i64 d] w (GivesRow w (fwP (fun k : Nat => sqF x y d k) l i (x * y * z).toNat).1) := by
  obtain ⟨x1, x2, y1, y2, z1, z2, p1, p2, q1, q2⟩ := good_box hg
  have hp := (good_true hg).2.2.2.2.2.2
  have HB0 : Hid (Below w.heap.size w (w.alloc (.cells #[.int .i64 x, .int .i64 y, .int .i64 z] 29))) := (Below.refl _ _).alloc (Nat.le_refl _) _
  have HG : Hid ((w.alloc (.cells #[.int .i64 x, .int .i64 y, .int .i64 z] 29)).heap[w.heap.size]? = some (.cells #[.int .i64 x, .int .i64 y, .int .i64 z] 29 (0, 0))) := World.alloc_heap_new _ _
  have XX : Hid (∀ u, Below (w.alloc (.cells #[.int .i64 x, .int .i64 y, .int .i64 z] 29)).heap.size (w.alloc (.cells #[.int .i64 x, .int .i64 y, .int .i64 z] 29)) u → u.cell? ⟨w.heap.size, 0, none⟩ = some (.int .i64 x) ∧ u.cell? ⟨w.heap.size, 1, none⟩ = some (.int .i64 y) ∧ u.cell? ⟨w.heap.size, 2, none⟩ = some (.int .i64 z)) := fun u hu => by
    have h1 := (hu.block _ (Array.getElem?_eq_some_iff.1 HG.out).1).trans HG.out
    simp [World.cell?, h1]
  obtain ⟨N, hN⟩ : ∃ N, (x * y * z).toNat = N := ⟨_, rfl⟩
  have hNi : (N : Int) = x * y * z := by omega
  have CN : Hid (∀ u, Calls Try.prog 32 #[.agg #[.int .i64 x, .int .i64 y, .int .i64 z]] u fun e w' => e = .returned (.int .i64 (N : Nat)) ∧ Below u.heap.size u w') := fun u => by rw [hNi]; exact c_grCount x y z u (by omega) x2 (by omega) y2 (by omega) z2
  have hN1 : N ≤ 120 := by omega
  have CQ : Hid (∀ (k : Nat) w1, k < N → Calls Try.prog 37 #[.agg #[.int .i64 x, .int .i64 y, .int .i64 z], .int .i64 k, .int .i64 d] w1 (GivesRow w1 (sqF x y d k))) := fun k w1 hk => c_phSquare x y z k d w1 hg (by omega) (by omega) hd
  have HF9 : ∀ k : Nat, (sqF x y d k).length ≤ 9 := fun k => by have := sqF_len x y d k; have := Nat.mul_le_mul hd hd; omega
  have CH : Hid (∀ (k : Nat) (q : Value) w1, Seen w1 q (sqF x y d k) → Calls Try.prog 35 #[q, .int .i64 i] w1 fun e w' => e = .returned (.bool (inL (sqF x y d k) i)) ∧ w1 = w') := fun k q w1 hq => c_hasL _ i q w1 (by have := HF9 k; omega) hq
  have CL : Hid (∀ (k : Nat) (q : Value) w1, Below w.heap.size w w1 → Seen w1 q (sqF x y d k) → Calls Try.prog 18 #[q, u] w1 (GivesRow w1 (lessL (sqF x y d k) l))) := fun k q w1 hb hq => c_phLess _ l q u w1 (by have := HF9 k; omega) hl hq (hs.below hb)
  have EL : Hid (∀ k : Nat, (sqF x y d k).length ≤ 9 ∧ (lessL (sqF x y d k) l).length ≤ 9) := fun k => ⟨HF9 k, by have := less_len (sqF x y d k) l; have := HF9 k; omega⟩
  have EF : Hid (∀ m, (fwP (fun k : Nat => sqF x y d k) l i m).1.length ≤ 9 ∧ -1 ≤ (fwP (fun k : Nat => sqF x y d k) l i m).2 ∧ (fwP (fun k : Nat => sqF x y d k) l i m).2 ≤ 9) := fun m => fw_len (F := fun k : Nat => sqF x y d k) HF9 m
  have E0 : Hid (fwP (fun k : Nat => sqF x y d k) l i 0 = ([], -1)) := rfl
  have EN : Hid (∀ m : Nat, inL (sqF x y d m) i = false → fwP (fun k : Nat => sqF x y d k) l i (m + 1) = fwP (fun k : Nat => sqF x y d k) l i m) := fun m h => by
    show (if inL (sqF x y d m) i then _ else _) = _
    rw [h]; rfl
  have EY : Hid (∀ m : Nat, inL (sqF x y d m) i = true → ((fwP (fun k : Nat => sqF x y d k) l i m).2 < 0 ∨ ((lessL (sqF x y d m) l).length : Int) < (fwP (fun k : Nat => sqF x y d k) l i m).2) → fwP (fun k : Nat => sqF x y d k) l i (m + 1) = (sqF x y d m, ((lessL (sqF x y d m) l).length : Int))) := fun m h h2 => by
    show (if inL (sqF x y d m) i then fwT l _ _ else _) = _
    rw [h, if_pos rfl]
    unfold fwT
    rw [if_pos h2]
  have EX : Hid (∀ m : Nat, inL (sqF x y d m) i = true → ¬ ((fwP (fun k : Nat => sqF x y d k) l i m).2 < 0 ∨ ((lessL (sqF x y d m) l).length : Int) < (fwP (fun k : Nat => sqF x y d k) l i m).2) → fwP (fun k : Nat => sqF x y d k) l i (m + 1) = fwP (fun k : Nat => sqF x y d k) l i m) := fun m h h2 => by
    show (if inL (sqF x y d m) i then fwT l _ _ else _) = _
    rw [h, if_pos rfl]
    unfold fwT
    rw [if_neg h2]
  obtain ⟨A, c, rfl⟩ := hs.shape
  rw [hN]
  clear hs hN hNi HG hg x1 x2 y1 y2 z1 z2 p1 p2 q1 q2 hp h0 h1 HF9 hd
  generalize fwP (fun k : Nat => sqF x y d k) l i = F at *
  obtain ⟨SQ, hSQ⟩ : ∃ SQ : Nat → List Int, (fun k : Nat => sqF x y d k) = SQ := ⟨_, rfl⟩
  have HSQ : Hid (∀ k : Nat, sqF x y d k = SQ k) := fun k => congrFun hSQ k
  simp only [HSQ.out] at CQ CH CL EL EN EY EX
  clear hSQ HSQ
  obtain ⟨LQ, hLQ⟩ : ∃ LQ : Nat → List Int, (fun k : Nat => lessL (SQ k) l) = LQ := ⟨_, rfl⟩
  have HLQ : Hid (∀ k : Nat, lessL (SQ k) l = LQ k) := fun k => congrFun hLQ k
  simp only [HLQ.out] at CL EL EY EX
  clear hLQ HLQ
  go_enter Try.func20, Try.ntmps20
  go_wp2_with fail
  go_loopw [9, 10, 11] (fun q n k wr => ∃ (m : Nat) (Aq : Option Addr) (cq : Nat), m ≤ N ∧ k = .int .i64 m ∧ q = .slice Aq (F m).1.length cq ∧ n = .int .i64 (F m).2 ∧ Row wr w.heap.size q (F m).1 ∧ Below w.heap.size w wr ∧ Below (w.alloc (.cells #[.int .i64 x, .int .i64 y, .int .i64 z] 29)).heap.size (w.alloc (.cells #[.int .i64 x, .int .i64 y, .int .i64 z] 29)) wr) (fun _ _ k _ => N - (RowKit.intOf k).toNat)
  case atStart => exact ⟨0, none, 0, Nat.zero_le _, rfl, by rw [E0.out]; rfl, by rw [E0.out], by rw [E0.out]; exact Row.nil _ _, HB0.out, Below.refl _ _⟩
  case round =>
    obtain ⟨m, Aq, cq, hm, rfl, rfl, rfl, hrq, hb, hx⟩ := hrel
    have HQ := Lib.hid hrq
    have HB := Lib.hid hb
    have HX := Lib.hid hx
    obtain ⟨v0, v1, v2⟩ := XX.out wr hx
    clear hrq hb hx
    go_wp2_with fail
    refine (CN.out _).mono ?_
    rintro e w1 ⟨rfl, hb⟩
    have HQ1 := Lib.hid (HQ.out.below hb)
    have HB1 := Lib.hid (HB.out.trans (hb.mono HB.out.size))
    have HX1 := Lib.hid (HX.out.trans (hb.mono HX.out.size))
    clear hb v0 v1 v2 HQ HB HX
    obtain ⟨v0, v1, v2⟩ := XX.out w1 HX1.out
    obtain ⟨f1, f2, f3⟩ := EF.out m
    by_cases hlt : m < N
    · have b1 : (m : Int) < (N : Int) := by omega
      go_wp2_with fail
      refine (CQ.out m _ hlt).mono ?_
      rintro e w2 ⟨v2', rfl, h2, hb⟩
      have HQ2 := Lib.hid (HQ1.out.below hb)
      have HS2 := Lib.hid (h2.mono HB1.out.size)
      have HB2 := Lib.hid (HB1.out.trans (hb.mono HB1.out.size))
      have HX2 := Lib.hid (HX1.out.trans (hb.mono HX1.out.size))
      obtain ⟨A2, c2, rfl⟩ := h2.shape
      clear h2 hb v0 v1 v2
      go_wp2_with fail
      refine (CH.out m _ w2 HS2.out.seen).mono ?_
      rintro e w3 ⟨rfl, rfl⟩
      cases hin : inL (SQ m) i
      · have G := Lib.hid (EN.out m hin)
        go_wp2
        go_roundw
        case rel => exact ⟨m + 1, Aq, cq, by omega, by go_num, by rw [G.out], by rw [G.out], by rw [G.out]; exact HQ2.out, HB2.out, HX2.out⟩
        case measure => simp [RowKit.intOf]; omega
      · have GY := Lib.hid (EY.out m hin)
        have GX := Lib.hid (EX.out m hin)
        obtain ⟨g1, g2⟩ := EL.out m
        go_wp2_with fail
        refine (CL.out m _ w2 HB2.out HS2.out.seen).mono ?_
        rintro e w4 ⟨v4, rfl, h4, hb⟩
        have HQ4 := Lib.hid (HQ2.out.below hb)
        have HS4 := Lib.hid (HS2.out.below hb)
        have HB4 := Lib.hid (HB2.out.trans (hb.mono HB2.out.size))
        have HX4 := Lib.hid (HX2.out.trans (hb.mono HX2.out.size))
        obtain ⟨A4, c4, rfl⟩ := h4.shape
        clear h4 hb
        by_cases hc1 : (F m).2 < 0
        · have G := Lib.hid (GY.out (.inl hc1))
          go_wp2
          go_roundw
          case rel => exact ⟨m + 1, A2, c2, by omega, by go_num, by rw [G.out], by rw [G.out], by rw [G.out]; exact HS4.out, HB4.out, HX4.out⟩
          case measure => simp [RowKit.intOf]; omega
        · by_cases hc2 : ((LQ m).length : Int) < (F m).2
          · have G := Lib.hid (GY.out (.inr hc2))
            go_wp2
            go_roundw
            case rel => exact ⟨m + 1, A2, c2, by omega, by go_num, by rw [G.out], by rw [G.out], by rw [G.out]; exact HS4.out, HB4.out, HX4.out⟩
            case measure => simp [RowKit.intOf]; omega
          · have G := Lib.hid (GX.out (by omega))
            go_wp2
            go_roundw
            case rel => exact ⟨m + 1, Aq, cq, by omega, by go_num, by rw [G.out], by rw [G.out], by rw [G.out]; exact HQ4.out, HB4.out, HX4.out⟩
            case measure => simp [RowKit.intOf]; omega
    · obtain rfl : m = N := by omega
      have b1 : ¬ (m : Int) < (m : Int) := by omega
      go_wp2
      go_ret
      exact ⟨_, rfl, HQ1.out, HB1.out⟩
end Go.Proofs.Ytfpjodoimfbadaa

namespace Go.Proofs.Ytfpjodoimfbadaa
open Go.RowKit
set_option linter.unusedVariables false
attribute [local go_sem] Oper.semAt_some

/-- What holds in the rounds over the squares around a block: the closure's box, the nearest square's and the fewest blocks'. -/
def NsI (w : World) (v : Value) (C : Nat → List Int × Nat) (s : Nat × Nat) (X : World) : Prop :=
  Below w.heap.size w X ∧ Boxed X (w.heap.size + 1) 25 v ∧ (∃ q, Boxed X (w.heap.size + 2) 25 q ∧ Row X w.heap.size q (C s.1).1) ∧ Boxed X (w.heap.size + 3) 3 (.int .i64 (C s.1).2) ∧ w.heap.size + 4 ≤ s.2 ∧ s.2 ≤ X.heap.size
theorem NsI.own (w : World) (v : Value) (C : Nat → List Int × Nat) (B : Nat) (hB : w.heap.size + 4 ≤ B) : OwnFrom B (NsI w v C) := fun s X Y row h hg hr => by
  obtain ⟨h1, h2, ⟨q, h3, h4⟩, h5, h6, h7⟩ := h
  have hn : ∀ r, row = some r → ∃ o : Obj, X.heap[r]? = some o ∧ o.isCells = false := fun r e => (hr r e).2
  exact ⟨h1.grown hg h1.size (fun k e => by have := (hr k e).1; omega), boxed_calmX h2 hg hn, ⟨q, boxed_calmX h3 hg hn, row_calmX h4 hg hn⟩, boxed_calmX h5 hg hn, h6, Nat.le_trans h7 hg.size⟩
theorem NsI.below {w : World} {v : Value} {C : Nat → List Int × Nat} {s : Nat × Nat} {X Y : World} (h : NsI w v C s X) (hb : Below X.heap.size X Y) : NsI w v C s Y := by
  obtain ⟨h1, h2, ⟨q, h3, h4⟩, h5, h6, h7⟩ := h
  exact ⟨h1.trans (hb.mono h1.size), (hb.block _ h2.lt).trans h2, ⟨q, (hb.block _ h3.lt).trans h3, h4.below hb⟩, (hb.block _ h5.lt).trans h5, h6, Nat.le_trans h7 hb.size⟩
/-- A nearer square, and how many of its blocks lie outside, stored. -/
theorem NsI.put {w : World} {v q' : Value} {C : Nat → List Int × Nat} {f T : Nat} {X : World} (h : NsI w v C (f, T) X) (hr : Row X T q' (C (f + 1)).1) :
    NsI w v C (f + 1, T) ((X.setCell ⟨w.heap.size + 2, 0, none⟩ q').setCell ⟨w.heap.size + 3, 0, none⟩ (.int .i64 (C (f + 1)).2)) ∧ Outside w.heap.size (w.heap.size + 4) X ((X.setCell ⟨w.heap.size + 2, 0, none⟩ q').setCell ⟨w.heap.size + 3, 0, none⟩ (.int .i64 (C (f + 1)).2)) := by
  obtain ⟨h1, h2, ⟨q, h3, h4⟩, h5, h6, h7⟩ := h
  have h6' : w.heap.size + 4 ≤ T := h6
  have h7' : T ≤ X.heap.size := h7
  have g1 := set_grownG X ⟨w.heap.size + 2, 0, none⟩ q'
  have n5 : Boxed (X.setCell ⟨w.heap.size + 2, 0, none⟩ q') (w.heap.size + 3) 3 (.int .i64 (C f).2) := (g1.block _ h5.lt (fun e => by have := Option.some.inj e; simp at this)).trans h5
  have n2 : Boxed (X.setCell ⟨w.heap.size + 2, 0, none⟩ q') (w.heap.size + 1) 25 v := (g1.block _ h2.lt (fun e => by have := Option.some.inj e; simp at this)).trans h2
  have n3 : Boxed (X.setCell ⟨w.heap.size + 2, 0, none⟩ q') (w.heap.size + 2) 25 q' := h3.set q'
  have n1 : Below w.heap.size w (X.setCell ⟨w.heap.size + 2, 0, none⟩ q') := h1.grown g1 h1.size (fun k e => by cases e; show w.heap.size ≤ w.heap.size + 2; omega)
  have nr : Row (X.setCell ⟨w.heap.size + 2, 0, none⟩ q') T q' (C (f + 1)).1 := own_stays hr fun k hk => g1.block k (World.ownsRow.lt hr k hk).2 fun e => by
    have := (World.ownsRow.lt hr k hk).1
    have := Option.some.inj e
    simp at this
    omega
  generalize X.setCell ⟨w.heap.size + 2, 0, none⟩ q' = Y at *
  have g2 := set_grownG Y ⟨w.heap.size + 3, 0, none⟩ (.int .i64 (C (f + 1)).2)
  constructor
  · refine ⟨n1.grown g2 n1.size (fun k e => by cases e; show w.heap.size ≤ w.heap.size + 3; omega), (g2.block _ n2.lt (fun e => by have := Option.some.inj e; simp at this)).trans n2, ⟨q', (g2.block _ n3.lt (fun e => by have := Option.some.inj e; simp at this)).trans n3, ?_⟩, n5.set _, h6, by have := g1.size; have := g2.size; show T ≤ _; omega⟩
    refine Row.mono (own_stays nr fun k hk => g2.block k (World.ownsRow.lt nr k hk).2 fun e => ?_) (by omega)
    have := (World.ownsRow.lt nr k hk).1
    have := Option.some.inj e
    simp at this
    omega
  · exact (Outside.grown g1 fun r e => by cases e; exact ⟨by show w.heap.size ≤ w.heap.size + 2; omega, by show w.heap.size + 2 < w.heap.size + 4; omega⟩).trans (Outside.grown g2 fun r e => by cases e; exact ⟨by show w.heap.size ≤ w.heap.size + 3; omega, by show w.heap.size + 3 < w.heap.size + 4; omega⟩)

set_option maxHeartbeats 8000000 in
set_option maxRecDepth 100000 in
theorem c_nearestSquare (x y z i : Int) (d : Nat) (l : List Int) (v : Value) (w : World) (hg : goodB x y z = true) (hd : d ≤ 3) (h0 : 0 ≤ i) (h1 : i < x * y * z) (hr : InN (x * y * z).toNat l) (hl : l.length ≤ 4000000) (hs : Seen w v l) :
    Calls Try.prog 27 #[.agg #[.int .i64 x, .int .i64 y, .int .i64 z, .int .i64 d], .int .i64 i, v] w (GivesRow w (nsP (arS x y d i) l (arN x y d i)).1) := by
  have HS := Lib.hid hs
  obtain ⟨g1, g2, g3, g4, g5, g6, g7⟩ := good_true hg
  have hN : (x * y * z).toNat ≤ 120 := by omega
  have CA : Hid (∀ u : World, Calls Try.prog 43 #[.agg #[.int .i64 x, .int .i64 y, .int .i64 z, .int .i64 d], .int .i64 i] u fun e w' => ∃ bP, e = .returned (.func (.func 56) #[] #[.pointer (some ⟨u.heap.size, 0, none⟩), .pointer (some ⟨bP, 0, none⟩)]) ∧ u.heap.size ≤ bP ∧
      ArBox x y z d (i % x) (i / x % y) (i / x / y) u.heap.size bP w' ∧ Below u.heap.size u w') := fun u => by
    refine (c_around x y z _ d u hg h0 (by omega)).mono ?_
    rintro e w' ⟨bP, h1, h2, h3, h4, h5⟩
    exact ⟨bP, h1, h2, ⟨h3, h4⟩, h5⟩
  have CT : Hid (∀ (bS bP U : Nat) (u : World), ArBox x y z d (i % x) (i / x % y) (i / x / y) bS bP u → U ≤ bS → U ≤ bP → TellsC Fence.wide 9 Try.prog 56 (.pointer (some ⟨bS, 0, none⟩)) (.pointer (some ⟨bP, 0, none⟩)) w.heap.size U (SqRow (arS x y d i)) (arN x y d i) u) := fun bS bP U u hA hu1 hu2 => c_around1 x y z _ d bS bP w.heap.size U u 9 (by omega) hg h0 (by omega) hd hA hu1 hu2
  have CB : Hid (∀ (f : Nat) (q : Value) (u : World), f < arN x y d i → Below w.heap.size w u → Seen u q (arS x y d i f) → Calls Try.prog 28 #[q, v] u (GivesRow u (lessL (arS x y d i f) l))) := fun f q u hf hb hq => by
    have h9 : (arS x y d i f).length ≤ 4000000 := by
      unfold arS
      rw [sqB_len]
      have := Nat.mul_le_mul hd hd
      omega
    rw [← ar_less (Z := z) l g1 g3 h0 h1 hf]
    exact c_blocksOutside _ _ l q v u (by omega) (ar_in g1 g3 h0 h1 hf) hr h9 hl hq (hs.below hb)
  have EL : Hid (∀ f, (lessL (arS x y d i f) l).length < 120) := fun f => less_nine hd f
  have E0 : Hid (nsP (arS x y d i) l 0 = ([], 120)) := rfl
  have EY : Hid (∀ f, (lessL (arS x y d i f) l).length < (nsP (arS x y d i) l f).2 → nsP (arS x y d i) l (f + 1) = (arS x y d i f, (lessL (arS x y d i f) l).length)) := fun f h => by
    show (if _ then _ else _) = _
    rw [if_pos h]
  have EN : Hid (∀ f, ¬ (lessL (arS x y d i f) l).length < (nsP (arS x y d i) l f).2 → nsP (arS x y d i) l (f + 1) = nsP (arS x y d i) l f) := fun f h => by
    show (if _ then _ else _) = _
    rw [if_neg h]
  obtain ⟨A, c, rfl⟩ := hs.shape
  clear hs hr hg g1 g2 g3 g4 g5 g6 g7 h0 h1 hd hN
  generalize nsP (arS x y d i) l = C at *
  generalize arN x y d i = n at *
  refine (callsIn_wide (n := 10)).1 ?_
  refine callsIn_of_wp_marks Try.func27 rfl trivial ?_ rfl
  simp only [Try.ntmps27, List.size_toArray, List.length_cons, List.length_nil, Nat.reduceAdd, Nat.reduceSub, Array.replicate_succ, Array.replicate_zero, List.push_toArray, List.append_toArray, List.nil_append, List.cons_append]
  gi_wp2_with fail
  refine ⟨trivial, ?_⟩
  obtain ⟨w0, hw0⟩ : ∃ w0, ((((w.alloc (.cells #[.int .i64 x, .int .i64 y, .int .i64 z, .int .i64 d] 44)).alloc (.cells #[.slice A l.length c] 25)).alloc (.cells #[.slice none 0 0] 25)).alloc (.cells #[.int .i64 120] 3)) = w0 := ⟨_, rfl⟩
  have z0 : w0.heap.size = w.heap.size + 4 := by rw [← hw0]; simp
  have HB0 : Hid (Below w.heap.size w w0) := by rw [← hw0]; exact ((((Below.refl _ w).alloc (Nat.le_refl _) _).alloc (by simp) _).alloc (by simp; omega) _).alloc (by simp; omega) _
  have hi1 : Boxed w0 (w.heap.size + 1) 25 (.slice A l.length c) := by
    rw [← hw0]
    have := ((Boxed.new (w.alloc (.cells #[.int .i64 x, .int .i64 y, .int .i64 z, .int .i64 d] 44)) 25 (.slice A l.length c)).alloc (.cells #[.slice none 0 0] 25)).alloc (.cells #[.int .i64 120] 3)
    simpa using this
  have hi2 : Boxed w0 (w.heap.size + 2) 25 (.slice none 0 0) := by
    rw [← hw0]
    have := (Boxed.new ((w.alloc (.cells #[.int .i64 x, .int .i64 y, .int .i64 z, .int .i64 d] 44)).alloc (.cells #[.slice A l.length c] 25)) 25 (.slice none 0 0)).alloc (.cells #[.int .i64 120] 3)
    simpa using this
  have hi3 : Boxed w0 (w.heap.size + 3) 3 (.int .i64 120) := by
    rw [← hw0]
    have := Boxed.new (((w.alloc (.cells #[.int .i64 x, .int .i64 y, .int .i64 z, .int .i64 d] 44)).alloc (.cells #[.slice A l.length c] 25)).alloc (.cells #[.slice none 0 0] 25)) 3 (.int .i64 120)
    simpa using this
  have HI0 : Hid (NsI w (.slice A l.length c) C (0, w.heap.size + 4) w0) := ⟨HB0.out, hi1, ⟨_, hi2, by rw [E0.out]; exact Row.nil _ _⟩, by rw [E0.out]; exact hi3, Nat.le_refl _, by rw [z0]; exact Nat.le_refl _⟩
  rw [hw0]
  rw [show w.heap.size + 1 + 1 = w.heap.size + 2 from rfl, show w.heap.size + 2 + 1 = w.heap.size + 3 from rfl]
  clear hw0 hi1 hi2 hi3 HB0
  refine (callsIn_wide.2 (CA.out _)).mono ?_
  rintro e w3 ⟨bP, rfl, hbP, hA, hb⟩
  rw [z0] at hbP hA
  have HI3 := Lib.hid (HI0.out.below hb)
  have hz3 : w.heap.size + 4 ≤ w3.heap.size := by rw [← z0]; exact hb.size
  have HTL := Lib.hid (CT.out (w.heap.size + 4) bP (w.heap.size + 4) w3 hA (Nat.le_refl _) hbP)
  clear hb HI0 hA CA CT
  rw [z0]
  clear z0
  gi_wp2_with fail
  refine wpIn_range_tellsC rfl (by omega) (gf := 56) (c1 := .pointer (some ⟨w.heap.size + 4, 0, none⟩)) (c2 := .pointer (some ⟨bP, 0, none⟩)) rfl trivial (enters_of Try.func56 (by kernel_rfl) rfl)
    HTL.out (by omega) (by omega) hz3 rfl (NsI w (.slice A l.length c) C) (fun _ _ _ => False)
    (NsI.own w _ C w3.heap.size hz3) (fun s X h => ⟨by have := h.2.2.2.2.1; omega, h.2.2.2.2.2⟩) (fun c s X Y row h => h.elim) (fun T f => SqRow.own _ _ T f) ⟨_, HI3.out⟩
    (fun f v => { tmps := #[.agg #[.int .i64 x, .int .i64 y, .int .i64 z, .int .i64 d], .int .i64 i, .slice A l.length c, .pointer (some ⟨w.heap.size, 0, none⟩), undef, .pointer (some ⟨w.heap.size + 1, 0, none⟩), .slice none 0 0, .pointer (some ⟨w.heap.size + 2, 0, none⟩), .pointer (some ⟨w.heap.size + 3, 0, none⟩), v, undef, .agg #[.int .i64 x, .int .i64 y, .int .i64 z, .int .i64 d], .int .i64 i, .func (.func 56) #[] #[.pointer (some ⟨w.heap.size + 4, 0, none⟩), .pointer (some ⟨bP, 0, none⟩)], v, undef, undef, undef, undef, undef, undef, undef, undef, undef, undef], defers := [] }) ?assign ?body ?done ?stop
  case assign =>
    intro l' f v X K hK
    gi_wp2
    exact hK
  case body =>
    rintro l' f T v X hf hz hI hx
    have hx' : Row X T v (arS x y d i f) := hx
    obtain ⟨Av, cv, rfl⟩ := hx'.shape
    have CBf := Lib.hid (CB.out f _ X hf hI.1 hx'.seen)
    have ELf := EL.out f
    have EYf := Lib.hid (EY.out f)
    have ENf := Lib.hid (EN.out f)
    have q5 := hI.2.1.cell
    have HII := Lib.hid hI
    have HXX := Lib.hid hx'
    clear hI hx hx' CB EL EY EN
    gi_wp2_with fail
    refine ⟨trivial, ?_⟩
    refine (CallsIn.inRound l' (callsIn_wide.2 CBf.out)).mono ?_
    rintro e X2 ⟨u, rfl, hu, hb⟩
    obtain ⟨A2, c2, rfl⟩ := hu.shape
    have HI2 := Lib.hid (HII.out.below hb)
    have HX2 := Lib.hid (HXX.out.below hb)
    have HO2 := Lib.hid (Outside.below (B := w.heap.size) (U := w.heap.size + 4) hb)
    have q8 := HI2.out.2.2.2.1.cell
    clear hu hb q5 CBf
    obtain ⟨q, hq, _⟩ := HI2.out.2.2.1
    have q7 := hq.cell
    have f7 := hq.frozen
    have f8 := HI2.out.2.2.2.1.frozen
    have q8' : ∀ u, (X2.setCell ⟨w.heap.size + 2, 0, none⟩ u).cell? ⟨w.heap.size + 3, 0, none⟩ = some (.int .i64 (C f).2) := fun u => by
      rw [← q8]
      exact World.cell?_setCell_other (h := fun e => by have := congrArg Addr.block e; simp at this) ..
    have f8' : ∀ u, (X2.setCell ⟨w.heap.size + 2, 0, none⟩ u).frozen? ⟨w.heap.size + 3, 0, none⟩ = false := fun u => by
      rw [← f8]
      exact World.frozen?_setCell ..
    clear hq
    by_cases hlt : (lessL (arS x y d i f) l).length < (C f).2
    · have G := Lib.hid (EYf.out hlt)
      have hlt' : ((lessL (arS x y d i f) l).length : Int) < ((C f).2 : Int) := by omega
      have HR2 : Hid (Row X2 T (.slice Av (arS x y d i f).length cv) (C (f + 1)).1) := by show Row _ _ _ _; rw [G.out]; exact HX2.out
      have HP := Lib.hid (HI2.out.put HR2.out)
      rw [G.out] at HP
      clear hlt
      gi_wp2
      exact ⟨HO2.out.trans HP.out.2, T, HP.out.1⟩
    · have G := Lib.hid (ENf.out hlt)
      have hlt' : ¬ ((lessL (arS x y d i f) l).length : Int) < ((C f).2 : Int) := by omega
      have HP : Hid (NsI w (.slice A l.length c) C (f + 1, T) X2) := by
        have h := HI2.out
        unfold NsI at h ⊢
        rw [G.out]
        exact h
      clear hlt
      gi_wp2
      exact ⟨HO2.out, T, HP.out⟩
  case done =>
    rintro D T X hD hI hK
    obtain ⟨h1, h2, ⟨q, h3, h4⟩, h5, h6, h7⟩ := hI
    have q7 := h3.cell
    obtain ⟨A7, c7, rfl⟩ := h4.shape
    have HB := Lib.hid h1
    have HR := Lib.hid h4
    have HK := Lib.hid hK
    clear h1 h2 h3 h4 h5 h6 h7 hK
    gi_wp2
    refine leaves_marks (B := w.heap.size) (fun X => Row X w.heap.size (.slice A7 (C n).1.length c7) (C n).1 ∧ Below w.heap.size w X) ?_ ?_ [D] X (by simp) (fun E h => by rw [List.mem_singleton.1 h]; exact ⟨by omega, HK.out⟩) ⟨HR.out, HB.out⟩
    · rintro X D hB hK ⟨h1, h2⟩
      have hg := grownBy_putObj' X D (.deferred none)
      exact ⟨row_calmX h1 hg (fun r e => by cases e; exact ⟨_, hK, rfl⟩), h2.grown hg h2.size (fun r e => by cases e; exact hB)⟩
    · rintro X ⟨h1, h2⟩
      exact ⟨_, results_tmp rfl _ _ _, .slice A7 (C n).1.length c7, rfl, h1, h2⟩
  case stop =>
    rintro D c1 f X hD hk1 h hK
    exact h.elim
end Go.Proofs.Ytfpjodoimfbadaa

namespace Go.Proofs.Ytfpjodoimfbadaa
open Go.RowKit
set_option linter.unusedVariables false

set_option maxHeartbeats 1000000 in
theorem c_areInGrid (x y z d : Int) (w : World) : Calls Try.prog 24 #[.agg #[.int .i64 x, .int .i64 y, .int .i64 z, .int .i64 d]] w fun e w' => e = .returned (.bool (decide (d ≤ x ∧ d ≤ y))) ∧ Below w.heap.size w w' := by
  have HB0 : Hid (Below w.heap.size w (w.alloc (.cells #[.int .i64 x, .int .i64 y, .int .i64 z, .int .i64 d] 44))) := (Below.refl _ _).alloc (Nat.le_refl _) _
  by_cases h1 : d ≤ x
  · rw [show decide (d ≤ x ∧ d ≤ y) = decide (d ≤ y) by simp [h1]]
    go_enter Try.func24, Try.ntmps24
    go_wp2
    go_ret
    exact ⟨rfl, HB0.out⟩
  · rw [decide_eq_false (show ¬ (d ≤ x ∧ d ≤ y) from fun h => h1 h.1)]
    go_enter Try.func24, Try.ntmps24
    go_wp2
    go_ret
    exact ⟨rfl, HB0.out⟩

/-- When widening succeeds, and what it gives. -/
def wdB (X Y Z W : Int) (xss : List (List Int)) (l : List Int) : Bool := triB X Y Z W xss l && decide (W ≤ X ∧ W ≤ Y)
def wdA (X Y Z W : Int) (xss : List (List Int)) (l : List Int) : List Int := if wdB X Y Z W xss l = true then wdn xss.length (wiL X Y Z W.toNat) (widG X Y Z W.toNat xss) l else []
theorem wd_ok {X Y Z W : Int} {xss : List (List Int)} {l : List Int} (h : wdB X Y Z W xss l = true) : triB X Y Z W xss l = true ∧ W ≤ X ∧ W ≤ Y := by
  unfold wdB at h
  rw [Bool.and_eq_true, decide_eq_true_eq] at h
  exact h
theorem wid_gB_len {xss : List (List Int)} (ha : arcB xss = true) {m : List Int} (h : gB xss m = true) : m.length ≤ xss.length := by
  have h2 := arc_len ha
  have := ris_len (gB_iff.1 h).1.2 (by omega)
  omega
theorem wid_go {X Y Z : Int} {w : Nat} {xss : List (List Int)} {l : List Int} (T : TrimOk X Y Z w xss) (h1 : (w : Int) ≤ X) (h2 : (w : Int) ≤ Y) (hg : gB xss l = true) (h : (wiL X Y Z w l).length < l.length) :
    wdn xss.length (wiL X Y Z w) (widG X Y Z w xss) l = wdn xss.length (wiL X Y Z w) (widG X Y Z w xss) (widG X Y Z w xss l) :=
  wd_go (P := fun l => gB xss l = true) (fun l hl => wid_gB_len T.arcs hl) (fun l hl hw => wid_step T h1 h2 hl hw) hg h
/-- What a step of widening asks of the blocks: the first narrow one, its square. -/
theorem wid_at {X Y Z : Int} {w : Nat} {xss : List (List Int)} {l : List Int} (T : TrimOk X Y Z w xss) (h1 : (w : Int) ≤ X) (h2 : (w : Int) ≤ Y) (hg : gB xss l = true) (h : (wiL X Y Z w l).length < l.length) :
    0 < (lessL l (wiL X Y Z w l)).length ∧ (lessL l (wiL X Y Z w l)).getD 0 0 = narF X Y Z w l ∧ 0 ≤ narF X Y Z w l ∧ narF X Y Z w l < X * Y * Z ∧ InX xss.length (nearL X Y w l (narF X Y Z w l)) ∧ (nearL X Y w l (narF X Y Z w l)).length ≤ 9 := by
  obtain ⟨⟨ha, hr⟩, hc⟩ := gB_iff.1 hg
  obtain ⟨hi, hni⟩ := nar_at T hr h
  have hib := ris_mem hr hi
  have hN := T.N
  have hsz := T.size
  obtain ⟨x1, _, y1, _, _⟩ := good_true T.good
  have hpos : 0 < (lessL l (wiL X Y Z w l)).length := by
    have hm : narF X Y Z w l ∈ lessL l (wiL X Y Z w l) := by
      unfold lessL
      rw [List.mem_filter]
      refine ⟨hi, ?_⟩
      cases hb : inL (wiL X Y Z w l) (narF X Y Z w l)
      · rfl
      · exact absurd (inL_iff.1 hb) hni
    exact List.length_pos_of_mem hm
  refine ⟨hpos, rfl, hib.1, by omega, ?_⟩
  obtain ⟨i, hie⟩ : ∃ i, narF X Y Z w l = i := ⟨_, rfl⟩
  rw [hie] at hib ⊢
  obtain ⟨f, hf, hS⟩ := ns_at (S := arS X Y w i) (l := l) (arN X Y w i) (arN_pos (Z := Z) x1 y1 T.w1 h1 h2 hib.1 (by omega)) fun f _ => less_nine T.w3 f
  have hin := ar_in (X := X) (Y := Y) (Z := Z) x1 y1 hib.1 (by omega) hf
  rw [hN] at hin
  unfold nearL
  rw [hS]
  refine ⟨hin, ?_⟩
  unfold arS
  rw [sqB_len]
  exact Nat.mul_le_mul T.w3 T.w3

set_option maxHeartbeats 8000000 in
set_option maxRecDepth 100000 in
theorem c_WidenPit (x y z W : Int) (xss : List (List Int)) (l : List Int) (v u : Value) (w : World) (hsh : ShortL xss) (hl : l.length ≤ 4000000) (h : SeenL w v xss) (hs : Seen w u l) :
    Calls Try.prog 9 #[.agg #[.int .i64 x, .int .i64 y, .int .i64 z], v, u, .int .i64 W] w (GivesRow2 w (wdA x y z W xss l) (wdB x y z W xss l)) := by
  have C1 : Hid (∀ w1, Calls Try.prog 23 #[.agg #[.int .i64 x, .int .i64 y, .int .i64 z, .int .i64 W]] w1 fun e w' => e = .returned (.bool (goodB x y z && decide (1 ≤ W ∧ W ≤ 3))) ∧ Below w1.heap.size w1 w') := fun w1 => c_areValid x y z W w1
  have C5 : Hid (∀ w1, Calls Try.prog 24 #[.agg #[.int .i64 x, .int .i64 y, .int .i64 z, .int .i64 W]] w1 fun e w' => e = .returned (.bool (decide (W ≤ x ∧ W ≤ y))) ∧ Below w1.heap.size w1 w') := fun w1 => c_areInGrid x y z W w1
  obtain ⟨wz, hwz⟩ : ∃ wz, (w.alloc (.cells #[.int .i64 x, .int .i64 y, .int .i64 z] 29)).alloc (.cells #[.int .i64 x, .int .i64 y, .int .i64 z, .int .i64 W] 44) = wz := ⟨_, rfl⟩
  have HB0 : Hid (Below w.heap.size w wz) := by rw [← hwz]; exact ((Below.refl _ _).alloc (Nat.le_refl _) _).alloc (by simp) _
  have hzz : wz.heap.size = w.heap.size + 2 := by rw [← hwz]; simp
  have HG : Hid (wz.heap[w.heap.size]? = some (.cells #[.int .i64 x, .int .i64 y, .int .i64 z] 29 (0, 0))) := by rw [← hwz]; exact (Below.heap_alloc _ _ _ (by simp)).trans (World.alloc_heap_new _ _)
  have HS : Hid (wz.heap[w.heap.size + 1]? = some (.cells #[.int .i64 x, .int .i64 y, .int .i64 z, .int .i64 W] 44 (0, 0))) := by
    rw [← hwz]
    have := World.alloc_heap_new (w.alloc (.cells #[.int .i64 x, .int .i64 y, .int .i64 z] 29)) (.cells #[.int .i64 x, .int .i64 y, .int .i64 z, .int .i64 W] 44)
    rwa [World.size_alloc] at this
  have XX : Hid (∀ v, Below wz.heap.size wz v → (v.cell? ⟨w.heap.size, 0, none⟩ = some (.int .i64 x) ∧ v.cell? ⟨w.heap.size, 1, none⟩ = some (.int .i64 y) ∧ v.cell? ⟨w.heap.size, 2, none⟩ = some (.int .i64 z)) ∧ v.cell? ⟨w.heap.size + 1, 0, none⟩ = some (.int .i64 x) ∧ v.cell? ⟨w.heap.size + 1, 1, none⟩ = some (.int .i64 y) ∧ v.cell? ⟨w.heap.size + 1, 2, none⟩ = some (.int .i64 z) ∧ v.cell? ⟨w.heap.size + 1, 3, none⟩ = some (.int .i64 W)) := fun v hv => by
    have h1 := (hv.block _ (Array.getElem?_eq_some_iff.1 HG.out).1).trans HG.out
    have h2 := (hv.block _ (Array.getElem?_eq_some_iff.1 HS.out).1).trans HS.out
    simp [World.cell?, h1, h2]
  obtain ⟨⟨q0, q1, q2⟩, q3, q4, q5, q6⟩ := XX.out wz (Below.refl _ _)
  have C2 : Hid (∀ w1, goodB x y z = true → Below w.heap.size w w1 → Calls Try.prog 25 #[.agg #[.int .i64 x, .int .i64 y, .int .i64 z], v, u] w1 fun e w' => e = .returned (.bool (decide ((xss.length : Int) = x * y * z) && gB xss l)) ∧ Below w1.heap.size w1 w') := fun w1 hg hb => c_isPitOf x y z xss l v u w1 hg hsh hl (h.below hb) (hs.below hb)
  have HSn := Lib.hid hs
  have HLn := Lib.hid h
  obtain ⟨A, c, rfl, _⟩ := h.shape
  obtain ⟨A2, c2, rfl⟩ := hs.shape
  have hls := hsh.1
  have HSH := Lib.hid hsh
  clear HG HS h hs hsh
  cases hv : goodB x y z && decide (1 ≤ W ∧ W ≤ 3)
  · have HA : Hid (wdA x y z W xss l = [] ∧ wdB x y z W xss l = false) := by show _ ∧ _; unfold wdA wdB; rw [triB_good, hv]; exact ⟨rfl, rfl⟩
    rw [hv] at C1
    rw [HA.out.1, HA.out.2]
    go_enter Try.func9, Try.ntmps9
    go_wp2_with fail
    refine (C1.out _).mono ?_
    rintro e w1 ⟨rfl, hb⟩
    have HB1 := Lib.hid (HB0.out.trans (hb.mono HB0.out.size))
    clear hb q0 q1 q2 q3 q4 q5 q6
    go_wp2
    go_ret2
    exact ⟨_, rfl, Row.nil _ _, HB1.out⟩
  · have hv' := hv
    rw [Bool.and_eq_true, decide_eq_true_eq] at hv
    obtain ⟨hg, h1, h3⟩ := hv
    rw [hv'] at C1
    cases hd : decide (W ≤ x ∧ W ≤ y)
    · have HA : Hid (wdA x y z W xss l = [] ∧ wdB x y z W xss l = false) := by show _ ∧ _; unfold wdA wdB; rw [hd, Bool.and_false]; exact ⟨rfl, rfl⟩
      rw [hd] at C5
      rw [HA.out.1, HA.out.2]
      go_enter Try.func9, Try.ntmps9
      go_wp2_with fail
      refine (C1.out _).mono ?_
      rintro e w1 ⟨rfl, hb⟩
      have HB1 := Lib.hid (HB0.out.trans (hb.mono HB0.out.size))
      have HZ1 := Lib.hid hb
      clear hb q0 q1 q2 q3 q4 q5 q6
      obtain ⟨⟨q0, q1, q2⟩, q3, q4, q5, q6⟩ := XX.out w1 HZ1.out
      go_wp2_with fail
      refine (C5.out _).mono ?_
      rintro e w2 ⟨rfl, hb⟩
      have HB2 := Lib.hid (HB1.out.trans (hb.mono HB1.out.size))
      clear hb q0 q1 q2 q3 q4 q5 q6
      go_wp2
      go_ret2
      exact ⟨_, rfl, Row.nil _ _, HB2.out⟩
    · rw [hd] at C5
      cases hr : decide ((xss.length : Int) = x * y * z) && gB xss l
      · have HA : Hid (wdA x y z W xss l = [] ∧ wdB x y z W xss l = false) := by show _ ∧ _; unfold wdA wdB; rw [triB_good, hr, Bool.and_false, Bool.false_and]; exact ⟨rfl, rfl⟩
        rw [hr] at C2
        rw [HA.out.1, HA.out.2]
        go_enter Try.func9, Try.ntmps9
        go_wp2_with fail
        refine (C1.out _).mono ?_
        rintro e w1 ⟨rfl, hb⟩
        have HB1 := Lib.hid (HB0.out.trans (hb.mono HB0.out.size))
        have HZ1 := Lib.hid hb
        clear hb q0 q1 q2 q3 q4 q5 q6
        obtain ⟨⟨q0, q1, q2⟩, q3, q4, q5, q6⟩ := XX.out w1 HZ1.out
        go_wp2_with fail
        refine (C5.out _).mono ?_
        rintro e w2 ⟨rfl, hb⟩
        have HB2 := Lib.hid (HB1.out.trans (hb.mono HB1.out.size))
        have HZ2 := Lib.hid (HZ1.out.trans (hb.mono HZ1.out.size))
        clear hb q0 q1 q2 q3 q4 q5 q6
        obtain ⟨⟨q0, q1, q2⟩, q3, q4, q5, q6⟩ := XX.out w2 HZ2.out
        go_wp2_with fail
        refine (C2.out _ hg HB2.out).mono ?_
        rintro e w3 ⟨rfl, hb⟩
        have HB3 := Lib.hid (HB2.out.trans (hb.mono HB2.out.size))
        clear hb q0 q1 q2 q3 q4 q5 q6
        go_wp2
        go_ret2
        exact ⟨_, rfl, Row.nil _ _, HB3.out⟩
      · have htb : triB x y z W xss l = true := by rw [triB_good, hv', hr]; rfl
        have hwb : wdB x y z W xss l = true := by unfold wdB; rw [htb, hd]; rfl
        obtain ⟨d, rfl⟩ := Int.eq_ofNat_of_zero_le (show 0 ≤ W by omega)
        obtain ⟨d1, d2⟩ := of_decide_eq_true hd
        obtain ⟨T, hgl, _, _⟩ := tri_ok htb
        rw [Int.toNat_natCast] at T
        have HT := Lib.hid T
        have HA : Hid (wdA x y z d xss l = wdn xss.length (wiL x y z d) (widG x y z d xss) l) := by show _ = _; unfold wdA; rw [hwb, if_pos rfl, Int.toNat_natCast]
        have hN := arc_len T.arcs
        have C3 : Hid (∀ (m : List Int) (q : Value) w1, gB xss m = true → Seen w1 q m → Calls Try.prog 26 #[.agg #[.int .i64 x, .int .i64 y, .int .i64 z, .int .i64 d], q] w1 (GivesRow w1 (wiL x y z d m))) := fun m q w1 hm hq => by
          have hr := (gB_iff.1 hm).1.2
          have := ris_len hr (by omega)
          exact c_wideBlocks x y z d m q w1 hg (by omega) (by omega) (by rw [HT.out.N]; exact hr) (by omega) hq
        have C4 : Hid (∀ (m : List Int) (q q2 : Value) w1, gB xss m = true → Seen w1 q m → Seen w1 q2 (wiL x y z d m) → Calls Try.prog 28 #[q, q2] w1 (GivesRow w1 (lessL m (wiL x y z d m)))) := fun m q q2 w1 hm hq hq2 => by
          have hr := (gB_iff.1 hm).1.2
          have h2 := ris_len hr (by omega)
          have h3 := ris_len (HT.out.wris m) (by omega)
          rw [less_sel _ hr]
          exact c_blocksOutside xss.length m _ q q2 w1 (by omega) (InN.ris hr) (InN.ris (HT.out.wris m)) (by omega) (by omega) hq hq2
        have C6 : Hid (∀ (m : List Int) (q : Value) w1, gB xss m = true → (wiL x y z d m).length < m.length → Seen w1 q m → Calls Try.prog 27 #[.agg #[.int .i64 x, .int .i64 y, .int .i64 z, .int .i64 d], .int .i64 (narF x y z d m), q] w1 (GivesRow w1 (nearL x y d m (narF x y z d m)))) := fun m q w1 hm hlt hq => by
          obtain ⟨_, _, k1, k2, _⟩ := wid_at HT.out d1 d2 hm hlt
          have hr := (gB_iff.1 hm).1.2
          have h2 := ris_len hr (by omega)
          exact c_nearestSquare x y z _ d m q w1 hg (by omega) k1 k2 (by rw [HT.out.N]; exact InN.ris hr) (by omega) hq
        have C7 : Hid (∀ (m : List Int) (q : Value) w1, gB xss m = true → (wiL x y z d m).length < m.length → Below w.heap.size w w1 → Seen w1 q (nearL x y d m (narF x y z d m)) → Calls Try.prog 30 #[.slice A xss.length c, q] w1 (GivesRow w1 (clL xss (nearL x y d m (narF x y z d m))))) := fun m q w1 hm hlt hb hq => by
          obtain ⟨_, _, _, _, k1, k2⟩ := wid_at HT.out d1 d2 hm hlt
          exact c_closeList xss _ (.slice A xss.length c) q w1 HT.out.arcs k1 (by omega) (HLn.out.below hb) hq
        have C8 : Hid (∀ (m : List Int) (q q2 : Value) w1, gB xss m = true → (wiL x y z d m).length < m.length → Below w.heap.size w w1 → Seen w1 q m → Seen w1 q2 (clL xss (nearL x y d m (narF x y z d m))) → Calls Try.prog 29 #[.slice A xss.length c, q, q2] w1 (GivesRow2 w1 (widG x y z d xss m) true)) := fun m q q2 w1 hm hlt hb hq hq2 => by
          obtain ⟨_, _, _, _, k1, k2⟩ := wid_at HT.out d1 d2 hm hlt
          have hr := (gB_iff.1 hm).1.2
          have h2 := ris_len hr (by omega)
          have hcl : gB xss (clL xss (nearL x y d m (narF x y z d m))) = true := by
            have e : clL xss (nearL x y d m (narF x y z d m)) = unC xss [] (nearL x y d m (narF x y z d m)) := un_cl (by funext x; simp [addL, inL])
            rw [e]
            exact un_good HT.out.arcs (fun x hx => by cases hx) k1
          have := c_JoinClosures xss m (clL xss (nearL x y d m (narF x y z d m))) (.slice A xss.length c) q q2 w1 HSH.out (by omega) (by have := clL_len xss (nearL x y d m (narF x y z d m)); omega) (HLn.out.below hb) hq hq2
          unfold joA at this
          rw [hm, hcl, Bool.true_and, if_pos rfl, un_eq hm k1] at this
          exact this
        have hG := Lib.hid hgl
        have EG : Hid (∀ m, gB xss m = true → (wiL x y z d m).length < m.length → wdn xss.length (wiL x y z d) (widG x y z d xss) m = wdn xss.length (wiL x y z d) (widG x y z d xss) (widG x y z d xss m) ∧ gB xss (widG x y z d xss m) = true ∧ m.length < (widG x y z d xss m).length) := fun m hm hlt => ⟨wid_go HT.out d1 d2 hm hlt, wid_step HT.out d1 d2 hm hlt⟩
        have ES : Hid (∀ m, gB xss m = true → ¬ (wiL x y z d m).length < m.length → wdn xss.length (wiL x y z d) (widG x y z d xss) m = wiL x y z d m) := fun m hm hn => by
          show _ = _
          rw [HT.out.wsame (gB_iff.1 hm).1.2 hn]
          exact wd_end hn
        have EB : Hid (∀ m, gB xss m = true → m.length ≤ 120) := fun m hm => by show _ ≤ _; have := ris_len (gB_iff.1 hm).1.2 (by omega); omega
        have EP : Hid (∀ m, gB xss m = true → (wiL x y z d m).length < m.length → 0 < (lessL m (wiL x y z d m)).length ∧ (lessL m (wiL x y z d m)).getD 0 0 = narF x y z d m ∧ (nearL x y d m (narF x y z d m)).length ≤ 9 ∧ (clL xss (nearL x y d m (narF x y z d m))).length ≤ 120 ∧ (lessL m (wiL x y z d m)).length ≤ 120) := fun m hm hlt => by
          obtain ⟨k1, k2, k3, k4, k5, k6⟩ := wid_at HT.out d1 d2 hm hlt
          have := less_len m (wiL x y z d m)
          have := EB.out m hm
          have := clL_len xss (nearL x y d m (narF x y z d m))
          exact ⟨k1, k2, k6, by omega, by omega⟩
        rw [HA.out, hwb]
        rw [hr] at C2
        clear hr htb hwb T HT HA hgl hv' HLn HSH hd d1 d2
        obtain ⟨LE, hLE⟩ : ∃ LE : List Int → List Int, (fun m => lessL m (wiL x y z d m)) = LE := ⟨_, rfl⟩
        have HLE : Hid (∀ m, lessL m (wiL x y z d m) = LE m) := fun m => congrFun hLE m
        obtain ⟨NE, hNE⟩ : ∃ NE : List Int → List Int, (fun m => nearL x y d m (narF x y z d m)) = NE := ⟨_, rfl⟩
        have HNE : Hid (∀ m, nearL x y d m (narF x y z d m) = NE m) := fun m => congrFun hNE m
        simp only [HLE.out, HNE.out] at C4 C6 C7 C8 EP
        clear hLE HLE hNE HNE
        generalize wdn xss.length (wiL x y z d) (widG x y z d xss) = TT at *
        generalize wiL x y z d = WW at *
        generalize widG x y z d xss = GG at *
        generalize narF x y z d = NF at *
        generalize clL xss = CC at *
        generalize gB xss = PG at *
        go_enter Try.func9, Try.ntmps9
        go_wp2_with fail
        refine (C1.out _).mono ?_
        rintro e w1 ⟨rfl, hb⟩
        have HB1 := Lib.hid (HB0.out.trans (hb.mono HB0.out.size))
        have HZ1 := Lib.hid hb
        clear hb q0 q1 q2 q3 q4 q5 q6
        obtain ⟨⟨q0, q1, q2⟩, q3, q4, q5, q6⟩ := XX.out w1 HZ1.out
        go_wp2_with fail
        refine (C5.out _).mono ?_
        rintro e w2 ⟨rfl, hb⟩
        have HB2 := Lib.hid (HB1.out.trans (hb.mono HB1.out.size))
        have HZ2 := Lib.hid (HZ1.out.trans (hb.mono HZ1.out.size))
        clear hb q0 q1 q2 q3 q4 q5 q6
        obtain ⟨⟨q0, q1, q2⟩, q3, q4, q5, q6⟩ := XX.out w2 HZ2.out
        go_wp2_with fail
        refine (C2.out _ hg HB2.out).mono ?_
        rintro e w3 ⟨rfl, hb⟩
        have HB3 := Lib.hid (HB2.out.trans (hb.mono HB2.out.size))
        have HZ3 := Lib.hid (HZ2.out.trans (hb.mono HZ2.out.size))
        clear hb q0 q1 q2 q3 q4 q5 q6
        obtain ⟨⟨q0, q1, q2⟩, q3, q4, q5, q6⟩ := XX.out w3 HZ3.out
        go_wp2_with fail
        refine (C3.out l _ _ hG.out (HSn.out.below HB3.out)).mono ?_
        rintro e w4 ⟨v, rfl, hY, hb⟩
        have HY := Lib.hid (hY.mono HB3.out.size)
        have HB4 := Lib.hid (HB3.out.trans (hb.mono HB3.out.size))
        have HZ4 := Lib.hid (HZ3.out.trans (hb.mono HZ3.out.size))
        obtain ⟨A3, c3, rfl⟩ := hY.shape
        clear hb hY q0 q1 q2 q3 q4 q5 q6
        go_wp2_with fail
        go_loopw [2, 11] (fun p q wr => ∃ (m : List Int) (Ap Aq : Option Addr) (cp cq : Nat), p = .slice Ap m.length cp ∧ q = .slice Aq (WW m).length cq ∧ Seen wr p m ∧ Row wr w.heap.size q (WW m) ∧ PG m = true ∧ TT m = TT l ∧ Below wz.heap.size wz wr) (fun p _ _ => 120 - lenV p)
        case atStart => exact ⟨l, A2, A3, c2, c3, rfl, rfl, HSn.out.below HB4.out, HY.out, hG.out, rfl, HZ4.out⟩
        case round =>
          obtain ⟨m, Ap, Aq, cp, cq, rfl, rfl, hsp, hrq, hgm, htm, hz⟩ := hrel
          have HP := Lib.hid hsp
          have HQ := Lib.hid hrq
          have HGm := Lib.hid hgm
          have HTm := Lib.hid htm
          have HZ := Lib.hid hz
          have HBr : Hid (Below w.heap.size w wr) := HB0.out.trans (hz.mono HB0.out.size)
          have hm120 := EB.out m hgm
          clear hsp hrq hgm htm hz
          by_cases hlt : (WW m).length < m.length
          · have hlt' : ((WW m).length : Int) < (m.length : Int) := by omega
            obtain ⟨e1, e2, e3⟩ := EG.out m HGm.out hlt
            obtain ⟨p1, p2, p3, p4, p5⟩ := EP.out m HGm.out hlt
            have E1 := Lib.hid e1
            have E2 := Lib.hid e2
            have E3 := Lib.hid e3
            have P2 := Lib.hid p2
            have HD : Hid (Below wr.heap.size wr wr.drew) := (Below.refl _ _).drew
            have D4 := Lib.hid (C4.out m _ _ wr.drew HGm.out (HP.out.below HD.out) (HQ.out.seen.below HD.out))
            have D6 := Lib.hid (fun q w1 => C6.out m q w1 HGm.out hlt)
            have D7 := Lib.hid (fun q w1 => C7.out m q w1 HGm.out hlt)
            have D8 := Lib.hid (fun q q2 w1 => C8.out m q q2 w1 HGm.out hlt)
            clear e1 e2 e3 p2 C4 C6 C7 C8 hlt
            go_wp2_with fail
            obtain ⟨Sa, hSa⟩ : ∃ S : World → Prop, S = (fun u => u.cell? ⟨w.heap.size + 1, 0, none⟩ = some (.int .i64 x) ∧ u.cell? ⟨w.heap.size + 1, 1, none⟩ = some (.int .i64 y) ∧ u.cell? ⟨w.heap.size + 1, 2, none⟩ = some (.int .i64 z) ∧ u.cell? ⟨w.heap.size + 1, 3, none⟩ = some (.int .i64 d)) := ⟨_, rfl⟩
            refine region_till Sa 8 (by kernel_rfl) (by rw [hSa]; exact (XX.out _ (HZ.out.trans (HD.out.mono HZ.out.size))).2) (fun hHeld => ?_)
            refine till_take (i := 0) (v := ?va_0) rfl (by kernel_rfl) (by kernel_rfl) (by kernel_rfl) (by kernel_rfl) (fun _ _ _ h => h) (Or.inl ⟨by rfl, ?hya_0⟩) (by assumption) ?resta_0
            case hya_0 =>
              intro u hSw
              rw [hSa] at hSw; obtain ⟨x0, x1, x2, x3⟩ := hSw
              go_simp
              try with_reducible rfl
            case resta_0 =>
              refine till_take (i := 1) (v := ?va_1) rfl (by kernel_rfl) (by kernel_rfl) (by kernel_rfl) (by kernel_rfl) (fun _ _ _ h => h) (Or.inl ⟨by rfl, ?hya_1⟩) (by assumption) ?resta_1
              case hya_1 =>
                intro u hSw
                rw [hSa] at hSw; obtain ⟨x0, x1, x2, x3⟩ := hSw
                go_simp
                try with_reducible rfl
              case resta_1 =>
                refine till_take (i := 2) (v := ?va_2) rfl (by kernel_rfl) (by kernel_rfl) (by kernel_rfl) (by kernel_rfl) (fun _ _ _ h => h) (Or.inl ⟨by rfl, ?hya_2⟩) (by assumption) ?resta_2
                case hya_2 =>
                  intro u hSw
                  rw [hSa] at hSw; obtain ⟨x0, x1, x2, x3⟩ := hSw
                  go_simp
                  try with_reducible rfl
                case resta_2 =>
                  refine till_take (i := 6) (v := ?va_6) rfl (by kernel_rfl) (by kernel_rfl) (by kernel_rfl) (by kernel_rfl) (fun _ _ _ h => h) (Or.inl ⟨by rfl, ?hya_6⟩) (by assumption) ?resta_6
                  case hya_6 =>
                    intro u hSw
                    rw [hSa] at hSw; obtain ⟨x0, x1, x2, x3⟩ := hSw
                    go_simp
                    try with_reducible rfl
                  case resta_6 =>
                    simp only [List.getElem_toArray, List.getElem_cons_zero, List.getElem_cons_succ, Act.put, List.setIfInBounds_toArray, List.set_cons_zero, List.set_cons_succ]
                    refine till_one (i := 3) rfl (by kernel_rfl) (fun K hK => ?_)
                    go_simp
                    refine (D4.out).mono ?_
                    rintro e w5 ⟨v5, rfl, h5, hb5⟩
                    have HD5 : Hid (Below wr.heap.size wr w5) := HD.out.trans (hb5.mono HD.out.size)
                    have HX5 : Hid ((fun u : World => u.cell? ⟨w.heap.size + 1, 0, none⟩ = some (.int .i64 x) ∧ u.cell? ⟨w.heap.size + 1, 1, none⟩ = some (.int .i64 y) ∧ u.cell? ⟨w.heap.size + 1, 2, none⟩ = some (.int .i64 z) ∧ u.cell? ⟨w.heap.size + 1, 3, none⟩ = some (.int .i64 d)) w5) := (XX.out w5 (HZ.out.trans (HD5.out.mono HZ.out.size))).2
                    obtain ⟨A5, c5, rfl⟩ := h5.shape
                    have q5' := h5.seen.at2 (show 0 < (LE m).length by omega)
                    obtain ⟨b5, o5, hA5, _, k5⟩ := q5'
                    subst hA5
                    rw [P2.out] at k5
                    have L5 := Lib.hid k5
                    clear h5 hb5 k5
                    refine hK.out _ _ (fun hz => by rw [hSa]; exact HX5.out) (fun hH => ?_)
                    have hHeld := hH (by omega)
                    clear hK K hH
                    refine till_take (i := 4) (v := ?va_4) rfl (by kernel_rfl) (by kernel_rfl) (by kernel_rfl) (by kernel_rfl) (fun _ _ _ h => h) (Or.inl ⟨by rfl, ?hya_4⟩) (by assumption) ?resta_4
                    case hya_4 =>
                      intro u hSw
                      rw [hSa] at hSw; obtain ⟨x0, x1, x2, x3⟩ := hSw
                      go_simp
                      try with_reducible rfl
                    case resta_4 =>
                      simp only [List.getElem_toArray, List.getElem_cons_zero, List.getElem_cons_succ, Act.put, List.setIfInBounds_toArray, List.set_cons_zero, List.set_cons_succ]
                      refine till_one (i := 5) rfl (by kernel_rfl) (fun K hK => ?_)
                      have k5 := L5.out
                      rw [Nat.add_zero] at k5
                      go_simp
                      refine hK.out _ _ (fun hz => by rw [hSa]; exact HX5.out) (fun hH => ?_)
                      have hHeld := hH (by omega)
                      clear hK K hH
                      refine till_one (i := 7) rfl (by kernel_rfl) (fun K hK => ?_)
                      go_simp
                      refine (D6.out _ _ (HP.out.below HD5.out)).mono ?_
                      rintro e w6 ⟨v6, rfl, h6, hb6⟩
                      have HD6 : Hid (Below wr.heap.size wr w6) := HD5.out.trans (hb6.mono HD5.out.size)
                      have HX6 : Hid ((fun u : World => u.cell? ⟨w.heap.size + 1, 0, none⟩ = some (.int .i64 x) ∧ u.cell? ⟨w.heap.size + 1, 1, none⟩ = some (.int .i64 y) ∧ u.cell? ⟨w.heap.size + 1, 2, none⟩ = some (.int .i64 z) ∧ u.cell? ⟨w.heap.size + 1, 3, none⟩ = some (.int .i64 d)) w6) := (XX.out w6 (HZ.out.trans (HD6.out.mono HZ.out.size))).2
                      have HN6 := Lib.hid (h6.mono HD5.out.size)
                      obtain ⟨A6, c6, rfl⟩ := h6.shape
                      clear h6 hb6
                      refine hK.out _ _ (fun hz => by rw [hSa]; exact HX6.out) (fun hH => ?_)
                      have hHeld := hH (by omega)
                      clear hK K hH
                      refine till_one (i := 8) rfl (by kernel_rfl) (fun K hK => ?_)
                      go_simp
                      refine hK.out _ _ (fun hz => absurd rfl hz) (fun hH => ?_)
                      clear hK K hH
                      refine till_done (by kernel_rfl) ?_ _
                      have HB6 : Hid (Below w.heap.size w w6) := HBr.out.trans (HD6.out.mono HBr.out.size)
                      have HZ6 : Hid (Below wz.heap.size wz w6) := HZ.out.trans (HD6.out.mono HZ.out.size)
                      have HP6 := Lib.hid (HP.out.below HD6.out)
                      clear hHeld hSa HX6 HX5 L5 HD5
                      go_wp2_with fail
                      refine (D7.out _ w6 HB6.out HN6.out.seen).mono ?_
                      rintro e w7 ⟨v7, rfl, h7, hb⟩
                      have HB7 := Lib.hid (HB6.out.trans (hb.mono HB6.out.size))
                      have HZ7 := Lib.hid (HZ6.out.trans (hb.mono HZ6.out.size))
                      have HP7 := Lib.hid (HP6.out.below hb)
                      have HR7 := Lib.hid h7.seen
                      obtain ⟨A7, c7, rfl⟩ := h7.shape
                      clear h7 hb
                      go_wp2_with fail
                      refine (D8.out _ _ w7 HB7.out HP7.out HR7.out).mono ?_
                      rintro e w8 ⟨v8, rfl, h8, hb⟩
                      have HB8 := Lib.hid (HB7.out.trans (hb.mono HB7.out.size))
                      have HZ8 := Lib.hid (HZ7.out.trans (hb.mono HZ7.out.size))
                      have HR8 := Lib.hid h8.seen
                      obtain ⟨A8, c8, rfl⟩ := h8.shape
                      obtain ⟨⟨q0, q1, q2⟩, q3, q4, q5, q6⟩ := XX.out w8 HZ8.out
                      clear h8 hb
                      go_wp2_with fail
                      refine (C3.out (GG m) _ _ E2.out HR8.out).mono ?_
                      rintro e w9 ⟨v9, rfl, h9, hb⟩
                      have HR9 := Lib.hid (h9.mono HB8.out.size)
                      have HS9 := Lib.hid (HR8.out.below hb)
                      have HZ9 := Lib.hid (HZ8.out.trans (hb.mono HZ8.out.size))
                      obtain ⟨A9, c9, rfl⟩ := h9.shape
                      have hg120 := EB.out _ E2.out
                      clear h9 hb q0 q1 q2 q3 q4 q5 q6
                      go_wp2
                      go_roundw
                      case rel => exact ⟨GG m, A8, A9, c8, c9, rfl, rfl, HS9.out, HR9.out, E2.out, by rw [← E1.out]; exact HTm.out, HZ9.out⟩
                      case measure => have := E3.out; simp [lenV]; omega
          · have hlt' : ¬ ((WW m).length : Int) < (m.length : Int) := by omega
            have E1 := Lib.hid (ES.out m HGm.out hlt)
            go_wp2
            go_ret2
            exact ⟨_, rfl, by rw [← HTm.out, E1.out]; exact HQ.out, HBr.out⟩
end Go.Proofs.Ytfpjodoimfbadaa

namespace Go.Proofs.Ytfpjodoimfbadaa
open Go.RowKit
set_option linter.unusedVariables false

/-- The numbers of the first t of l put into a list. -/
def putT (now l : List Int) : Nat → List Int
  | 0 => now
  | t + 1 => putI (putT now l t) (l.getD t 0)
theorem putI_len (ys : List Int) (x : Int) : (putI ys x).length ≤ ys.length + 1 := by
  unfold putI
  split
  · omega
  · rw [List.length_append, List.length_append, List.length_take, List.length_drop]
    simp
    omega
theorem putT_len (now l : List Int) : ∀ t, (putT now l t).length ≤ now.length + t
  | 0 => Nat.le_refl _
  | t + 1 => by
    have h1 := putT_len now l t
    have h2 := putI_len (putT now l t) (l.getD t 0)
    show (putI _ _).length ≤ _
    omega
theorem putT_mem (now l : List Int) (x : Int) : ∀ t, t ≤ l.length → (x ∈ putT now l t ↔ x ∈ l.take t ∨ x ∈ now)
  | 0, _ => by simp [putT]
  | t + 1, h => by
    have ih := putT_mem now l x t (by omega)
    show x ∈ putI _ _ ↔ _
    rw [putI_mem, ih, List.take_succ_eq_append_getElem (by omega), show l.getD t 0 = l[t] by simp [show t < l.length by omega], List.mem_append, List.mem_singleton]
    constructor
    · rintro (h | h | h)
      · exact .inl (.inr h)
      · exact .inl (.inl h)
      · exact .inr h
    · rintro ((h | h) | h)
      · exact .inr (.inl h)
      · exact .inl h
      · exact .inr (.inr h)
theorem putT_add (now l : List Int) : inL (putT now l l.length) = addL l (inL now) := by
  funext x
  rw [Bool.eq_iff_iff, inL_iff, putT_mem now l x _ (Nat.le_refl _), List.take_length]
  unfold addL
  rw [Bool.or_eq_true, inL_iff]
  simp
theorem putT_in {N : Nat} {now l : List Int} (h1 : InN N now) (h2 : InN N l) : InN N (putT now l l.length) := fun x hx => by
  rw [putT_mem now l x _ (Nat.le_refl _), List.take_length] at hx
  rcases hx with h | h
  · exact h2 x h
  · exact h1 x h

theorem wd_nil {xss : List (List Int)} {X Y Z : Int} {w : Nat} {l : List Int} (T : TrimOk X Y Z w xss) (hr : risB xss.length l = true) : (lessL l (wiL X Y Z w l)).length = 0 ↔ ¬ (wiL X Y Z w l).length < l.length := by
  constructor
  · intro h hlt
    obtain ⟨hi, hni⟩ := nar_at T hr hlt
    have hm : narF X Y Z w l ∈ lessL l (wiL X Y Z w l) := by
      unfold lessL
      rw [List.mem_filter]
      refine ⟨hi, ?_⟩
      cases hb : inL (wiL X Y Z w l) (narF X Y Z w l)
      · rfl
      · exact absurd (inL_iff.1 hb) hni
    have := List.length_pos_of_mem hm
    omega
  · intro h
    rw [T.wsame hr h]
    unfold lessL
    rw [List.length_eq_zero_iff, List.filter_eq_nil_iff]
    intro x hx
    simp [inL_iff.2 hx]

set_option maxHeartbeats 8000000 in
set_option maxRecDepth 100000 in
theorem c_WidenPitS (x y z W : Int) (xss : List (List Int)) (l : List Int) (v u : Value) (B : Nat) (w : World) (hsh : ShortL xss) (hl : l.length ≤ 4000000) (h : SeenL w v xss) (hs : Row w B u l) :
    Calls Try.prog 5 #[.agg #[.int .i64 x, .int .i64 y, .int .i64 z], v, u, .int .i64 W] w (GivesRow2 w (wdA x y z W xss l) (wdB x y z W xss l)) := by
  have HB0 : Hid (Below w.heap.size w (w.alloc (.cells #[.int .i64 x, .int .i64 y, .int .i64 z] 29))) := (Below.refl _ _).alloc (Nat.le_refl _) _
  have HG : Hid ((w.alloc (.cells #[.int .i64 x, .int .i64 y, .int .i64 z] 29)).heap[w.heap.size]? = some (.cells #[.int .i64 x, .int .i64 y, .int .i64 z] 29 (0, 0))) := World.alloc_heap_new _ _
  have XX : Hid (∀ u, Below (w.alloc (.cells #[.int .i64 x, .int .i64 y, .int .i64 z] 29)).heap.size (w.alloc (.cells #[.int .i64 x, .int .i64 y, .int .i64 z] 29)) u → u.cell? ⟨w.heap.size, 0, none⟩ = some (.int .i64 x) ∧ u.cell? ⟨w.heap.size, 1, none⟩ = some (.int .i64 y) ∧ u.cell? ⟨w.heap.size, 2, none⟩ = some (.int .i64 z)) := fun u hu => by
    have h1 := (hu.block _ (Array.getElem?_eq_some_iff.1 HG.out).1).trans HG.out
    simp [World.cell?, h1]
  have C1 := Lib.hid (c_phPit x y z W xss l v u (w.alloc (.cells #[.int .i64 x, .int .i64 y, .int .i64 z] 29)) hsh hl (h.below HB0.out) (hs.seen.below HB0.out))
  have HLn := Lib.hid h
  have HRn := Lib.hid hs
  obtain ⟨A, c, rfl, _⟩ := h.shape
  obtain ⟨A2, c2, rfl⟩ := hs.shape
  have hls := hsh.1
  clear HG h hs
  cases htb : triB x y z W xss l
  · have HA : Hid (wdA x y z W xss l = [] ∧ wdB x y z W xss l = false) := by show _ ∧ _; unfold wdA wdB; rw [htb]; exact ⟨rfl, rfl⟩
    rw [htb] at C1
    rw [HA.out.1, HA.out.2]
    go_enter Try.func5, Try.ntmps5
    go_wp2_with fail
    refine C1.out.mono ?_
    rintro e w1 ⟨rfl, hb⟩
    have HB1 := Lib.hid (HB0.out.trans (hb.mono HB0.out.size))
    clear hb
    go_wp2
    go_ret2
    exact ⟨_, rfl, Row.nil _ _, HB1.out⟩
  · rw [htb] at C1
    by_cases d1 : W ≤ x
    · have d1' : ¬ x < W := by omega
      by_cases d2 : W ≤ y
      · have d2' : ¬ y < W := by omega
        have hwb : wdB x y z W xss l = true := by unfold wdB; rw [htb, decide_eq_true ⟨d1, d2⟩]; rfl
        obtain ⟨T, hgl, h1, h3⟩ := tri_ok htb
        obtain ⟨d, rfl⟩ := Int.eq_ofNat_of_zero_le (show 0 ≤ W by omega)
        rw [Int.toNat_natCast] at T
        have HT := Lib.hid T
        have HA : Hid (wdA x y z d xss l = wdn xss.length (wiL x y z d) (widG x y z d xss) l) := by show _ = _; unfold wdA; rw [hwb, if_pos rfl, Int.toNat_natCast]
        have hN := arc_len T.arcs
        have C2 : Hid (∀ w1, Below w.heap.size w w1 → Calls Try.prog 17 #[.slice A2 l.length c2] w1 (GivesRow w1 l)) := fun w1 hb => c_l1OwnA A2 l.length c2 l w1 hl rfl (row_srcA (HRn.out.below hb))
        have C3 : Hid (∀ (m : List Int) (q : Value) w1, gB xss m = true → Seen w1 q m → Calls Try.prog 19 #[.agg #[.int .i64 x, .int .i64 y, .int .i64 z], q, .int .i64 d] w1 (GivesRow w1 (wiL x y z d m))) := fun m q w1 hm hq => by
          have hr := (gB_iff.1 hm).1.2
          have := ris_len hr (by omega)
          exact c_phWide x y z d m q w1 T.good (by omega) (by rw [HT.out.N]; exact InN.ris hr) (by omega) hq
        have C4 : Hid (∀ (m : List Int) (q q2 : Value) w1, gB xss m = true → Seen w1 q m → Seen w1 q2 (wiL x y z d m) → Calls Try.prog 18 #[q, q2] w1 (GivesRow w1 (lessL m (wiL x y z d m)))) := fun m q q2 w1 hm hq hq2 => by
          have hr := (gB_iff.1 hm).1.2
          have h2 := ris_len hr (by omega)
          have h3 := ris_len (HT.out.wris m) (by omega)
          exact c_phLess m _ q q2 w1 (by omega) (by omega) hq hq2
        have C5 : Hid (∀ (m : List Int) (q : Value) w1, gB xss m = true → (wiL x y z d m).length < m.length → Seen w1 q m → Calls Try.prog 20 #[.agg #[.int .i64 x, .int .i64 y, .int .i64 z], q, .int .i64 (narF x y z d m), .int .i64 d] w1 (GivesRow w1 (nearL x y d m (narF x y z d m)))) := fun m q w1 hm hlt hq => by
          obtain ⟨_, _, k1, k2, _⟩ := wid_at HT.out d1 d2 hm hlt
          have hr := (gB_iff.1 hm).1.2
          have h2 := ris_len hr (by omega)
          obtain ⟨x1, _, y1, _, _⟩ := good_true T.good
          have := c_phFewest x y z _ d m q w1 T.good (by omega) k1 k2 (by omega) hq
          rw [near_eq x1 y1 k1 k2 (fun f _ => less_nine (by omega) f)] at this
          exact this
        have C6 : Hid (∀ (p : List Int) (t : Int) (q : Value) (B : Nat) w1, Row w1 B q p → B ≤ w1.heap.size → p.length ≤ 4000 → Calls Try.prog 21 #[q, .int .i64 t] w1 (PutGives w1 B (putI p t))) := fun p t q B w1 h1 h2 h3 => c_l1Put p t q B w1 h1 h2 h3
        have C7 : Hid (∀ (m : List Int) (q : Value) w1, gB xss m = true → (wiL x y z d m).length < m.length → Below w.heap.size w w1 → Seen w1 q (putT m (nearL x y d m (narF x y z d m)) (nearL x y d m (narF x y z d m)).length) → Calls Try.prog 22 #[.slice A xss.length c, q] w1 (GivesRow w1 (widG x y z d xss m))) := fun m q w1 hm hlt hb hq => by
          obtain ⟨_, _, _, _, k1, k2⟩ := wid_at HT.out d1 d2 hm hlt
          have hr := (gB_iff.1 hm).1.2
          have h2 := ris_len hr (by omega)
          have hpl := putT_len m (nearL x y d m (narF x y z d m)) (nearL x y d m (narF x y z d m)).length
          have := c_clLeast xss _ (.slice A xss.length c) q w1 HT.out.arcs (putT_in (InN.ris hr) k1) (by omega) (HLn.out.below hb) hq
          rw [un_cl (putT_add m (nearL x y d m (narF x y z d m)))] at this
          exact this
        have hG := Lib.hid hgl
        have EG : Hid (∀ m, gB xss m = true → (wiL x y z d m).length < m.length → wdn xss.length (wiL x y z d) (widG x y z d xss) m = wdn xss.length (wiL x y z d) (widG x y z d xss) (widG x y z d xss m) ∧ gB xss (widG x y z d xss m) = true ∧ m.length < (widG x y z d xss m).length) := fun m hm hlt => ⟨wid_go HT.out d1 d2 hm hlt, wid_step HT.out d1 d2 hm hlt⟩
        have ES : Hid (∀ m, gB xss m = true → ¬ (wiL x y z d m).length < m.length → wdn xss.length (wiL x y z d) (widG x y z d xss) m = m) := fun m hm hn => wd_end hn
        have EB : Hid (∀ m, gB xss m = true → m.length ≤ 120) := fun m hm => by show _ ≤ _; have := ris_len (gB_iff.1 hm).1.2 (by omega); omega
        have EZ : Hid (∀ m, gB xss m = true → ((lessL m (wiL x y z d m)).length = 0 ↔ ¬ (wiL x y z d m).length < m.length) ∧ (lessL m (wiL x y z d m)).length ≤ 120) := fun m hm => ⟨wd_nil HT.out (gB_iff.1 hm).1.2, by have := less_len m (wiL x y z d m); have := EB.out m hm; omega⟩
        have EP : Hid (∀ m, gB xss m = true → (wiL x y z d m).length < m.length → 0 < (lessL m (wiL x y z d m)).length ∧ (lessL m (wiL x y z d m)).getD 0 0 = narF x y z d m ∧ (nearL x y d m (narF x y z d m)).length ≤ 9) := fun m hm hlt => by
          obtain ⟨k1, k2, k3, k4, k5, k6⟩ := wid_at HT.out d1 d2 hm hlt
          exact ⟨k1, k2, k6⟩
        have PL : Hid (∀ m s : List Int, ∀ t, (putT m s t).length ≤ m.length + t) := putT_len
        have P0 : Hid (∀ m s : List Int, putT m s 0 = m) := fun m s => rfl
        have P1 : Hid (∀ (m s : List Int) t, putI (putT m s t) (s.getD t 0) = putT m s (t + 1)) := fun m s t => rfl
        rw [HA.out, hwb]
        clear htb T HT HA hgl hwb hsh HLn HRn h1 h3 d1 d2
        obtain ⟨LE, hLE⟩ : ∃ LE : List Int → List Int, (fun m => lessL m (wiL x y z d m)) = LE := ⟨_, rfl⟩
        have HLE : Hid (∀ m, lessL m (wiL x y z d m) = LE m) := fun m => congrFun hLE m
        obtain ⟨NE, hNE⟩ : ∃ NE : List Int → List Int, (fun m => nearL x y d m (narF x y z d m)) = NE := ⟨_, rfl⟩
        have HNE : Hid (∀ m, nearL x y d m (narF x y z d m) = NE m) := fun m => congrFun hNE m
        simp only [HLE.out, HNE.out] at C4 C5 C7 EP EZ
        clear hLE HLE hNE HNE
        generalize wdn xss.length (wiL x y z d) (widG x y z d xss) = TT at *
        generalize wiL x y z d = WW at *
        generalize widG x y z d xss = GG at *
        generalize narF x y z d = NF at *
        generalize gB xss = PG at *
        generalize putT = PT at *
        go_enter Try.func5, Try.ntmps5
        go_wp2_with fail
        refine C1.out.mono ?_
        rintro e w1 ⟨rfl, hb⟩
        have HB1 := Lib.hid (HB0.out.trans (hb.mono HB0.out.size))
        have HX1 := Lib.hid hb
        obtain ⟨v0, v1, v2⟩ := XX.out w1 hb
        clear hb
        go_wp2_with fail
        refine (C2.out _ HB1.out).mono ?_
        rintro e w2 ⟨v2', rfl, h2, hb⟩
        have HB2 := Lib.hid (HB1.out.trans (hb.mono HB1.out.size))
        have HX2 := Lib.hid (HX1.out.trans (hb.mono HX1.out.size))
        have HR2 := Lib.hid (h2.mono HB1.out.size)
        obtain ⟨A5, c5, rfl⟩ := h2.shape
        clear h2 hb v0 v1 v2
        go_wp2_with fail
        go_loopw [10] (fun p wr => ∃ (m : List Int) (Ap : Option Addr) (cp : Nat), p = .slice Ap m.length cp ∧ Row wr w.heap.size p m ∧ PG m = true ∧ TT m = TT l ∧ Below w.heap.size w wr ∧ Below (w.alloc (.cells #[.int .i64 x, .int .i64 y, .int .i64 z] 29)).heap.size (w.alloc (.cells #[.int .i64 x, .int .i64 y, .int .i64 z] 29)) wr) (fun p _ => 120 - lenV p)
        case atStart => exact ⟨l, A5, c5, rfl, HR2.out, hG.out, rfl, HB2.out, HX2.out⟩
        case round =>
          obtain ⟨m, Ap, cp, rfl, hrp, hgm, htm, hb, hx⟩ := hrel
          have HP := Lib.hid hrp
          have HGm := Lib.hid hgm
          have HTm := Lib.hid htm
          have HB := Lib.hid hb
          have HX := Lib.hid hx
          have hm120 := EB.out m hgm
          obtain ⟨v0, v1, v2⟩ := XX.out wr hx
          clear hrp hgm htm hb hx
          go_wp2_with fail
          refine (C3.out m _ _ HGm.out HP.out.seen).mono ?_
          rintro e w5 ⟨v5, rfl, h5, hb⟩
          have HR5 := Lib.hid h5
          have HB5 := Lib.hid (HB.out.trans (hb.mono HB.out.size))
          have HX5 := Lib.hid (HX.out.trans (hb.mono HX.out.size))
          have HP5 := Lib.hid (HP.out.below hb)
          obtain ⟨A6, c6, rfl⟩ := h5.shape
          clear h5 hb v0 v1 v2
          go_wp2_with fail
          refine (C4.out m _ _ _ HGm.out HP5.out.seen HR5.out.seen).mono ?_
          rintro e w6 ⟨v6, rfl, h6, hb⟩
          have HR6 := Lib.hid (h6.mono HB5.out.size)
          have HB6 := Lib.hid (HB5.out.trans (hb.mono HB5.out.size))
          have HX6 := Lib.hid (HX5.out.trans (hb.mono HX5.out.size))
          have HP6 := Lib.hid (HP5.out.below hb)
          obtain ⟨A7, c7, rfl⟩ := h6.shape
          obtain ⟨ez, ez2⟩ := EZ.out m HGm.out
          clear h6 hb
          by_cases hlt : (WW m).length < m.length
          · obtain ⟨e1, e2, e3⟩ := EG.out m HGm.out hlt
            obtain ⟨p1, p2, p3⟩ := EP.out m HGm.out hlt
            have E1 := Lib.hid e1
            have E2 := Lib.hid e2
            have E3 := Lib.hid e3
            have he' : ¬ ((LE m).length : Int) = 0 := by omega
            have D5 := Lib.hid (fun q w1 => C5.out m q w1 HGm.out hlt)
            have D7 := Lib.hid (fun q w1 => C7.out m q w1 HGm.out hlt)
            obtain ⟨b6, o6, hA7, _, k6⟩ := HR6.out.seen.at2 (show 0 < (LE m).length by omega)
            subst hA7
            rw [p2, Nat.add_zero] at k6
            have K6 := Lib.hid k6
            clear e1 e2 e3 p2 C5 C7 hlt ez k6
            have HD : Hid (Below w6.heap.size w6 w6.drew) := (Below.refl _ _).drew
            have KS : Hid (∀ u, Below w6.heap.size w6 u → (u.cell? ⟨w.heap.size, 0, none⟩ = some (.int .i64 x) ∧ u.cell? ⟨w.heap.size, 1, none⟩ = some (.int .i64 y) ∧ u.cell? ⟨w.heap.size, 2, none⟩ = some (.int .i64 z)) ∧ u.cell? ⟨b6, o6, none⟩ = some (.int .i64 (NF m))) := fun u hu => ⟨XX.out u (HX6.out.trans (hu.mono HX6.out.size)), by
              have hbl : b6 < w6.heap.size := by
                have := K6.out
                simp only [World.cell?] at this
                split at this
                · rename_i hh; exact (Array.getElem?_eq_some_iff.1 hh).1
                · cases this
              exact (hu.cell (p := ⟨b6, o6, none⟩) hbl).trans K6.out⟩
            go_wp2_with fail
            go_region_held3 (fun u => (u.cell? ⟨w.heap.size, 0, none⟩ = some (.int .i64 x) ∧ u.cell? ⟨w.heap.size, 1, none⟩ = some (.int .i64 y) ∧ u.cell? ⟨w.heap.size, 2, none⟩ = some (.int .i64 z)) ∧ u.cell? ⟨b6, o6, none⟩ = some (.int .i64 (NF m))) (first | with_reducible exact KS.out _ HD.out | with_reducible exact KS.out _ HD7.out) (first | (go_at_call 20; refine (D5.out _ _ (HP6.out.seen.below HD.out)).mono ?_; rintro e w7 ⟨v7, rfl, h7, hb7⟩; have HD7 : Hid (Below w6.heap.size w6 w7) := HD.out.trans (hb7.mono HD.out.size); have HS7 := Lib.hid h7.seen; obtain ⟨A8, c8, rfl⟩ := h7.shape; clear h7 hb7))
            have HB7 : Hid (Below w.heap.size w w7) := HB6.out.trans (HD7.out.mono HB6.out.size)
            have HX7 : Hid (Below (w.alloc (.cells #[.int .i64 x, .int .i64 y, .int .i64 z] 29)).heap.size (w.alloc (.cells #[.int .i64 x, .int .i64 y, .int .i64 z] 29)) w7) := HX6.out.trans (HD7.out.mono HX6.out.size)
            have HP7 := Lib.hid (HP6.out.below HD7.out)
            have H7 : Hid (Row w7 w.heap.size (.slice Ap m.length cp) (PT m (NE m) 0)) := by rw [P0.out]; exact HP7.out
            have L0 : Hid (Value.slice Ap m.length cp = .slice Ap (PT m (NE m) 0).length cp) := by show _ = _; rw [P0.out]
            have PLm := Lib.hid (PL.out m (NE m))
            have P1m := Lib.hid (P1.out m (NE m))
            rw [L0.out] at H7 ⊢
            clear HP5 HP6 HP7 HR6 HD HD7 KS K6 L0 PL P1 P0
            generalize PT m (NE m) = PP at *
            generalize NE m = ne at *
            go_wp2_with fail
            go_loopw [10, 52] (fun q i wi => ∃ (t : Nat) (Aq : Option Addr) (cq : Nat), t ≤ ne.length ∧ i = .int .i64 t ∧ q = .slice Aq (PP t).length cq ∧ Row wi w.heap.size q (PP t) ∧ Below w7.heap.size w7 wi) (fun _ i _ => ne.length - (RowKit.intOf i).toNat)
            case atStart => exact ⟨0, Ap, cp, Nat.zero_le _, rfl, rfl, H7.out, Below.refl _ _⟩
            case round =>
              obtain ⟨t, Aq, cq, ht, rfl, rfl, hq, hbi⟩ := hrel
              have HQ := Lib.hid hq
              have HBi := Lib.hid hbi
              have HBw : Hid (Below w.heap.size w wr) := HB7.out.trans (hbi.mono HB7.out.size)
              have hPt := PLm.out t
              clear hq hbi
              by_cases htl : t < ne.length
              · obtain ⟨bb, oo, rfl, _, q1⟩ := (HS7.out.below HBi.out).at2 htl
                have HCP := Lib.hid (C6.out (PP t) (ne.getD t 0) _ w.heap.size wr HQ.out HBw.out.size (by omega))
                rw [P1m.out] at HCP
                have b3 : (0 : Int) ≤ (t : Int) := by omega
                have b4 : (t : Int) < (ne.length : Int) := by omega
                generalize ne.getD t 0 = s at *
                go_wp2_with fail
                refine HCP.out.mono ?_
                rintro e w8 ⟨q8, rfl, h8, hb8⟩
                have HB8 := Lib.hid (HBi.out.trans (hb8.mono HBi.out.size))
                have H8 := Lib.hid h8
                obtain ⟨A9, c9, rfl⟩ := h8.shape
                clear h8 hb8
                go_wp2
                go_roundw
                case rel => exact ⟨t + 1, A9, c9, by omega, by go_num, rfl, H8.out, HB8.out⟩
                case measure => simp [RowKit.intOf]; omega
              · obtain rfl : t = ne.length := by omega
                have HXw : Hid (Below (w.alloc (.cells #[.int .i64 x, .int .i64 y, .int .i64 z] 29)).heap.size (w.alloc (.cells #[.int .i64 x, .int .i64 y, .int .i64 z] 29)) wr) := HX7.out.trans (HBi.out.mono HX7.out.size)
                have HCL := Lib.hid (D7.out _ wr HBw.out HQ.out.seen)
                have hg120 := EB.out _ E2.out
                go_wp2_with fail
                refine HCL.out.mono ?_
                rintro e w8 ⟨q8, rfl, h8, hb8⟩
                have HB8 := Lib.hid (HBw.out.trans (hb8.mono HBw.out.size))
                have HX8 := Lib.hid (HXw.out.trans (hb8.mono HXw.out.size))
                have H8 := Lib.hid (h8.mono HBw.out.size)
                obtain ⟨A9, c9, rfl⟩ := h8.shape
                clear h8 hb8
                go_wp2
                go_roundw
                case rel => exact ⟨GG m, A9, c9, rfl, H8.out, E2.out, by rw [← E1.out]; exact HTm.out, HB8.out, HX8.out⟩
                case measure => have := E3.out; simp [lenV]; omega
          · have he' : ((LE m).length : Int) = 0 := by have := ez.2 hlt; omega
            have E1 := Lib.hid (ES.out m HGm.out hlt)
            go_wp2
            go_ret2
            exact ⟨_, rfl, by rw [← HTm.out, E1.out]; exact HP6.out, HB6.out⟩
      · have d2' : y < W := by omega
        have HA : Hid (wdA x y z W xss l = [] ∧ wdB x y z W xss l = false) := by show _ ∧ _; unfold wdA wdB; rw [decide_eq_false (show ¬ (W ≤ x ∧ W ≤ y) from fun h => d2 h.2), Bool.and_false]; exact ⟨rfl, rfl⟩
        rw [HA.out.1, HA.out.2]
        go_enter Try.func5, Try.ntmps5
        go_wp2_with fail
        refine C1.out.mono ?_
        rintro e w1 ⟨rfl, hb⟩
        have HB1 := Lib.hid (HB0.out.trans (hb.mono HB0.out.size))
        obtain ⟨v0, v1, v2⟩ := XX.out w1 hb
        clear hb
        go_wp2
        go_ret2
        exact ⟨_, rfl, Row.nil _ _, HB1.out⟩
    · have d1' : x < W := by omega
      have HA : Hid (wdA x y z W xss l = [] ∧ wdB x y z W xss l = false) := by show _ ∧ _; unfold wdA wdB; rw [decide_eq_false (show ¬ (W ≤ x ∧ W ≤ y) from fun h => d1 h.1), Bool.and_false]; exact ⟨rfl, rfl⟩
      rw [HA.out.1, HA.out.2]
      go_enter Try.func5, Try.ntmps5
      go_wp2_with fail
      refine C1.out.mono ?_
      rintro e w1 ⟨rfl, hb⟩
      have HB1 := Lib.hid (HB0.out.trans (hb.mono HB0.out.size))
      obtain ⟨v0, v1, v2⟩ := XX.out w1 hb
      clear hb
      go_wp2
      go_ret2
      exact ⟨_, rfl, Row.nil _ _, HB1.out⟩
theorem wdA_len (x y z W : Int) (xss : List (List Int)) (l : List Int) : (wdA x y z W xss l).length ≤ 4000000 := by
  unfold wdA
  split
  · rename_i h
    obtain ⟨h1, d1, d2⟩ := wd_ok h
    obtain ⟨T, hg, k1, k2⟩ := tri_ok h1
    obtain ⟨d, rfl⟩ := Int.eq_ofNat_of_zero_le (show 0 ≤ W by omega)
    rw [Int.toNat_natCast] at T ⊢
    have hN := arc_len T.arcs
    have key : ∀ (n : Nat) (m : List Int), gB xss m = true → (wdN (wiL x y z d) (widG x y z d xss) n m).length ≤ 120 := by
      intro n
      induction n with
      | zero => intro m hm; have := wid_gB_len T.arcs hm; show m.length ≤ _; omega
      | succ n ih =>
        intro m hm
        unfold wdN
        split
        · rename_i hlt
          exact ih _ (wid_step T d1 d2 hm hlt).1
        · have := wid_gB_len T.arcs hm; omega
    have := key (xss.length - l.length) l hg
    unfold wdn
    omega
  · simp
end Go.Proofs.Ytfpjodoimfbadaa
