/-
  The table of the best rests: plain facts; the greatest of a few numbers beside each other, in the program.
-/
import Derived.Test.YtmkbjkmpincogaaSV
namespace Go.Proofs.Ytmkbjkmpincogaa
open Go.RowKit Go.Shelf
set_option linter.unusedVariables false
attribute [local go_sem] Oper.semAt_some

theorem maxF_shift (F : Nat → Int) (lo : Nat) : ∀ k, maxF (fun j => F (lo + j)) 0 k = maxF F lo k
  | 0 => by simp [maxF]
  | k + 1 => by rw [maxF, maxF, maxF_shift F lo k]; simp
theorem maxF_one (F : Nat → Int) (lo k : Nat) : maxF F lo (k + 1) = max (maxF F lo k) (F (lo + (k + 1))) := rfl

set_option maxHeartbeats 2000000 in
theorem c_MaxF (b off K cap : Nat) (f : Nat → Int) (w : World) (h1 : 1 ≤ K) (h2 : K ≤ 1000) (hc : ∀ j, j < K → w.cell? ⟨b, off + j, none⟩ = some (.int .i64 (f j))) :
    Calls Try.prog 83 #[.slice (some ⟨b, off, none⟩) K cap] w fun e w' => e = .returned (.int .i64 (maxF f 0 (K - 1))) ∧ w = w' := by
  have E1 : Hid (∀ k : Nat, k < K → w.cell? ⟨b, off + k, none⟩ = some (.int .i64 (f k))) := hc
  have ES : Hid (∀ k, maxF f 0 (k + 1) = max (maxF f 0 k) (f (k + 1))) := fun k => by rw [maxF]; simp
  have E0 : Hid (maxF f 0 0 = f 0) := rfl
  have q00 := E1.out 0 h1
  rw [Nat.add_zero] at q00
  clear hc
  generalize maxF f 0 = F at *
  have n1 : ¬ (K : Int) < 1 := by omega
  have n2 : (0 : Int) < (K : Int) := by omega
  rw [← E0.out] at q00
  obtain ⟨R, hR⟩ : ∃ R, F (K - 1) = R := ⟨_, rfl⟩
  rw [hR]
  have HR := Lib.hid hR
  clear hR
  go_enter Try.func83, Try.ntmps83
  go_wp2_with fail
  go_loop [3, 4] (fun q i => ∃ k : Nat, k + 1 ≤ K ∧ i = .int .i64 ((k : Int) + 1) ∧ q = .int .i64 (F k)) (fun _ i => K - (intOf i).toNat)
  case atStart => exact ⟨0, by omega, by simp, rfl⟩
  case round =>
    obtain ⟨k, hk, rfl, rfl⟩ := hrel
    by_cases hlt : k + 1 < K
    · have q0 := E1.out (k + 1) hlt
      have X := Lib.hid (ES.out k)
      generalize f (k + 1) = t at *
      have b1 : (0 : Int) ≤ (k : Int) + 1 := by omega
      have b2 : (k : Int) + 1 < (K : Int) := by omega
      have b5 : ((k : Int) + 1).toNat = k + 1 := by omega
      clear q00
      by_cases hd : F k ≤ t
      · have X2 : Hid (F (k + 1) = t) := by have := X.out; show _ = _; omega
        go_wp2
        all_goals
          go_round
          case rel => exact ⟨k + 1, by omega, by go_num, by rw [X2.out]; congr 1; omega⟩
          case measure => simp [intOf]; omega
      · have X2 : Hid (F (k + 1) = F k) := by have := X.out; show _ = _; omega
        go_wp2
        all_goals
          go_round
          case rel => exact ⟨k + 1, by omega, by go_num, by rw [X2.out]; congr 1; omega⟩
          case measure => simp [intOf]; omega
    · obtain rfl : k = K - 1 := by omega
      have b2 : ¬ ((K - 1 : Nat) : Int) + 1 < (K : Int) := by omega
      rw [HR.out]
      go_wp2
      go_ret
      exact ⟨rfl, rfl⟩

/-- The columns from n - k on hold their best rests. -/
def ResTo (xss : List (List Int)) (p : List Int) (n k : Nat) (ys : List Int) : Prop := ∀ c d, n ≤ c + k → c < n → d < Lp p c → ys.getD (offT p c + d) 0 = rcF xss p n c d
/-- .. those behind x do, and of x the first j depths; its other ones hold what its own blocks are worth. -/
def MidTo (xss : List (List Int)) (p : List Int) (n x j : Nat) (ys : List Int) : Prop := (∀ c d, x < c → c < n → d < Lp p c → ys.getD (offT p c + d) 0 = rcF xss p n c d) ∧ ∀ d, d < Lp p x → ys.getD (offT p x + d) 0 = if d < j then rcF xss p n x d else preS (xss.getD x []) d
/-- A part of a list, laid over. -/
def overL (ys : List Int) (o : Nat) (zs : List Int) : List Int := ys.take o ++ (zs ++ ys.drop (o + zs.length))
theorem over_len {ys zs : List Int} {o : Nat} (h : o + zs.length ≤ ys.length) : (overL ys o zs).length = ys.length := by
  unfold overL; simp; omega
theorem over_at {ys zs : List Int} {o i : Nat} (h : o + zs.length ≤ ys.length) : (overL ys o zs).getD i 0 = if o ≤ i ∧ i < o + zs.length then zs.getD (i - o) 0 else ys.getD i 0 := by
  have hl : (ys.take o).length = o := by rw [List.length_take]; omega
  unfold overL
  by_cases a : i < o
  · rw [if_neg (by omega), List.getD_eq_getElem?_getD, List.getElem?_append_left (by omega), List.getElem?_take, if_pos a, ← List.getD_eq_getElem?_getD]
  · by_cases b : i < o + zs.length
    · rw [if_pos ⟨by omega, b⟩, List.getD_eq_getElem?_getD, List.getElem?_append_right (by omega), hl, List.getElem?_append_left (by omega), ← List.getD_eq_getElem?_getD]
    · rw [if_neg (by omega), List.getD_eq_getElem?_getD, List.getElem?_append_right (by omega), hl, List.getElem?_append_right (by omega), List.getElem?_drop, show o + zs.length + (i - o - zs.length) = i by omega, ← List.getD_eq_getElem?_getD]
/-- What one column's own blocks are worth, depth by depth. -/
def ownR (xss : List (List Int)) (p : List Int) (x : Nat) : List Int := upT (fun d => preS (xss.getD x []) d) (Lp p x)
theorem ownR_len (xss : List (List Int)) (p : List Int) (x : Nat) : (ownR xss p x).length = Lp p x := upT_len _ _
theorem ownR_at (xss : List (List Int)) (p : List Int) {x d : Nat} (h : d < Lp p x) : (ownR xss p x).getD d 0 = preS (xss.getD x []) d := by simp [ownR, upT, h]
theorem mid_start {xss : List (List Int)} {p : List Int} {n k x : Nat} {ys : List Int} (hx : x + k + 1 = n) (hl : ys.length = offT p n) (h : ResTo xss p n k ys) : MidTo xss p n x 0 (overL ys (offT p x) (ownR xss p x)) := by
  have hf := offT_far p (show x < n by omega)
  have hz : offT p x + (ownR xss p x).length ≤ ys.length := by rw [ownR_len, hl]; exact hf
  refine ⟨fun c d h1 h2 h3 => ?_, fun d hd => ?_⟩
  · have := offT_far p h1
    rw [over_at hz, if_neg (by rw [ownR_len]; omega)]
    exact h c d (by omega) h2 h3
  · rw [over_at hz, if_pos (by rw [ownR_len]; omega), if_neg (by omega), show offT p x + d - offT p x = d by omega]
    exact ownR_at xss p hd
theorem mid_last {xss : List (List Int)} {p : List Int} {n : Nat} {ys : List Int} (hn : 1 ≤ n) (h : MidTo xss p n (n - 1) 0 ys) : ResTo xss p n 1 ys := fun c d h1 h2 h3 => by
  obtain rfl : c = n - 1 := by omega
  rw [h.2 d h3, if_neg (by omega), rc_last xss p hn]
theorem mid_put {xss : List (List Int)} {p : List Int} {n x j : Nat} {ys : List Int} (hl : ys.length = offT p n) (hx : x < n) (hj : j < Lp p x) (h : MidTo xss p n x j ys) : MidTo xss p n x (j + 1) (ys.set (offT p x + j) (rcF xss p n x j)) := by
  have pl := place_lt hx hj
  refine ⟨fun c d h1 h2 h3 => ?_, fun d hd => ?_⟩
  · rw [set_getD (by omega), if_neg (fun e => by have := (offT_inj p h3 hj e).1; omega)]
    exact h.1 c d h1 h2 h3
  · rw [set_getD (by omega)]
    by_cases e : d = j
    · subst e
      rw [if_pos rfl, if_pos (by omega)]
    · rw [if_neg (by omega), h.2 d hd]
      by_cases e2 : d < j
      · rw [if_pos e2, if_pos (by omega)]
      · rw [if_neg e2, if_neg (by omega)]
theorem mid_end {xss : List (List Int)} {p : List Int} {n x k : Nat} {ys : List Int} (hx : x + k + 1 = n) (h : MidTo xss p n x (Lp p x) ys) : ResTo xss p n (k + 1) ys := fun c d h1 h2 h3 => by
  by_cases e : c = x
  · subst e
    rw [h.2 d h3, if_pos h3]
  · exact h.1 c d (by omega) h2 h3

/-- The greatest of the rests beside depth d in the column behind x. -/
def mxN (p : List Int) (ys : List Int) (x d : Nat) : Int := maxF (fun i => ys.getD (offT p (x + 1) + i) 0) (loN d) (cnN d (Lp p (x + 1)) - 1)
/-- Column x, its first j depths raised by what the columns behind it can have. -/
def putR (p : List Int) (ys : List Int) (x : Nat) : Nat → List Int
  | 0 => ys
  | j + 1 => (putR p ys x j).set (offT p x + j) (wrap64 ((putR p ys x j).getD (offT p x + j) 0 + mxN p (putR p ys x j) x j))
theorem putR_len (p : List Int) (ys : List Int) (x : Nat) : ∀ j, (putR p ys x j).length = ys.length
  | 0 => rfl
  | j + 1 => by rw [putR, List.length_set, putR_len p ys x j]
/-- One row of a table. -/
def segR (p : List Int) (ws : List Int) (x : Nat) : List Int := upT (fun d => ws.getD (offT p x + d) 0) (Lp p x)
theorem segR_len (p : List Int) (ws : List Int) (x : Nat) : (segR p ws x).length = Lp p x := upT_len _ _
/-- What a round makes of the table. -/
def bodyL (p : List Int) (n : Nat) (ws ys : List Int) (x : Nat) : List Int := if x = n - 1 then overL ys (offT p x) (segR p ws x) else putR p (overL ys (offT p x) (segR p ws x)) x (Lp p x)
theorem seg_own {xss : List (List Int)} {p : List Int} {n x : Nat} {ws : List Int} (hx : x < n) (h : WorTo xss p n n 0 ws) : segR p ws x = ownR xss p x := by
  apply List.ext_getElem
  · rw [segR_len, ownR_len]
  · intro i h1 h2
    rw [segR_len] at h1
    have := h x i hx h1
    rw [if_pos (.inl hx)] at this
    simp only [segR, ownR, upT, List.getElem_map, List.getElem_range]
    exact this
theorem put_mid {xss : List (List Int)} {p : List Int} {n D x : Nat} {ys : List Int} (S : Sec xss n D) (hq : Lim p n D) (hl : ys.length = offT p n) (hx : x + 1 < n) (h : MidTo xss p n x 0 ys) : ∀ j, j ≤ Lp p x → MidTo xss p n x j (putR p ys x j)
  | 0, _ => h
  | j + 1, hj => by
    have ih := put_mid S hq hl hx h j (by omega)
    have e1 := ih.2 j (by omega)
    rw [if_neg (by omega)] at e1
    have l1 := Lp_box hq.pro S.d2 (show x < n by omega)
    have l2 := Lp_box hq.pro S.d2 hx
    have nr := hq.near x hx
    have f := near_box (d := j) (len := Lp p (x + 1)) (by omega) (by omega)
    have e2 : mxN p (putR p ys x j) x j = maxF (rcF xss p n (x + 1)) (loN j) (cnN j (Lp p (x + 1)) - 1) := maxF_congr _ fun i hi => ih.1 (x + 1) (loN j + i) (by omega) hx (by omega)
    have e3 := rc_step xss p hx j
    have e4 := rc_small S hq (show x < n by omega) (show j < Lp p x by omega)
    rw [putR, e1, e2, ← e3, IntWalk.wrap64_in _ (by omega)]
    exact mid_put (by rw [putR_len]; exact hl) (by omega) (by omega) ih
theorem body_len {p : List Int} {n x : Nat} {ws ys : List Int} (hl : ys.length = offT p n) (hx : x < n) : (bodyL p n ws ys x).length = offT p n := by
  have hf := offT_far p hx
  have hz : offT p x + (segR p ws x).length ≤ ys.length := by rw [segR_len, hl]; exact hf
  unfold bodyL
  split
  · rw [over_len hz, hl]
  · rw [putR_len, over_len hz, hl]
theorem body_res {xss : List (List Int)} {p : List Int} {n D x k : Nat} {ws ys : List Int} (S : Sec xss n D) (hq : Lim p n D) (hw : WorTo xss p n n 0 ws) (hl : ys.length = offT p n) (hx : x + k + 1 = n) (h : ResTo xss p n k ys) : ResTo xss p n (k + 1) (bodyL p n ws ys x) := by
  have hm := mid_start hx hl h
  rw [← seg_own (by omega) hw] at hm
  have hf := offT_far p (show x < n by omega)
  have hz : offT p x + (segR p ws x).length ≤ ys.length := by rw [segR_len, hl]; exact hf
  unfold bodyL
  by_cases e : x = n - 1
  · rw [if_pos e]
    subst e
    obtain rfl : k = 0 := by omega
    exact mid_last S.n1 hm
  · rw [if_neg e]
    exact mid_end hx (put_mid S hq (by rw [over_len hz, hl]) (by omega) hm _ (Nat.le_refl _))
/-- What all rounds make of it. -/
def runB {n : Nat} (p : List Int) (ws ys : List Int) (pre : List { x : Nat // x < n }) : List Int := pre.foldl (fun t x => bodyL p n ws t x.1) ys
theorem runB_snoc {n : Nat} (p : List Int) (ws ys : List Int) (pre : List { x : Nat // x < n }) (x : { x : Nat // x < n }) : runB p ws ys (pre ++ [x]) = bodyL p n ws (runB p ws ys pre) x.1 := by simp [runB]
theorem runB_len {n : Nat} (p : List Int) (ws : List Int) {ys : List Int} (hl : ys.length = offT p n) (pre : List { x : Nat // x < n }) : (runB p ws ys pre).length = offT p n := by
  unfold runB
  induction pre generalizing ys with
  | nil => exact hl
  | cons a t ih => exact ih (body_len hl a.2)
def elF {n : Nat} (h1 : 1 ≤ n) (x : Nat) : { x : Nat // x < n } := if h : x < n then ⟨x, h⟩ else ⟨0, by omega⟩
theorem elF_at {n : Nat} (h1 : 1 ≤ n) {x : Nat} (h : x < n) : (elF h1 x).1 = x := by unfold elF; rw [dif_pos h]
theorem runB_res {xss : List (List Int)} {p : List Int} {n D : Nat} {ws ys : List Int} (S : Sec xss n D) (hq : Lim p n D) (hw : WorTo xss p n n 0 ws) (hl : ys.length = offT p n) : ∀ k, k ≤ n → ResTo xss p n k (runB p ws ys (dnL (elF S.n1) n k))
  | 0, _ => fun c d h1 h2 h3 => by omega
  | k + 1, h => by
    rw [dnL_succ, runB_snoc, elF_at S.n1 (by omega)]
    exact body_res S hq hw (runB_len p ws hl _) (by omega) (runB_res S hq hw hl k (by omega))

/-- A row that is known whole stays when what is no cells turns. -/
theorem own_own {w w' : World} {B s n : Nat} {e : TypeId} {v : Value} {xs : List Value} {row : Option Nat} (h : w.ownsRow B e s v n xs) (hg : w.grownBy w' row) (hr : ∀ r, row = some r → ∃ o : Obj, w.heap[r]? = some o ∧ o.isCells = false) : w'.ownsRow B e s v n xs := by
  refine World.ownsRow.kept h hg ?_
  cases hv : v.ownBlock with
  | none => exact .inl rfl
  | some g =>
    refine .inr fun e1 => ?_
    obtain ⟨o, h1, h2⟩ := hr g (by first | exact e1.symm | exact e1)
    rcases h.2 with ⟨rfl, _⟩ | ⟨g', cap, cur, rfl, _, hh, _⟩
    · simp [Value.ownBlock] at hv
    · simp [Value.ownBlock] at hv
      subst hv
      rw [hh] at h1
      injection h1 with h1
      subst h1
      simp [Obj.isCells] at h2
theorem Tab.own {w w' : World} {B b g : Nat} {p : List Int} {n k : Nat} {xs : List Int} {row : Option Nat} (h : Tab w B b g p n k xs) (hg : w.grownBy w' row) (hr : ∀ r, row = some r → ∃ o : Obj, w.heap[r]? = some o ∧ o.isCells = false) : Tab w' B b g p n k xs :=
  ⟨own_own h.tab hg hr, own_own h.row hg hr, h.len⟩
theorem Tab.whole {w : World} {B b g : Nat} {p : List Int} {n k : Nat} {xs : List Int} (h : Tab w B b g p n k xs) (h0 : 0 < offT p n) : w.heap[g]? = some (.cells (ints xs).toArray 3 (0, 0)) := row_whole h.len.symm h.row h0
/-- A part of the cells laid over. -/
theorem Tab.over {w : World} {B b g : Nat} {p : List Int} {n k : Nat} {xs : List Int} (h : Tab w B b g p n k xs) (h0 : 0 < offT p n) (hm : offT p n ≤ 1000000) {o : Nat} {zs : List Int} (hz : o + zs.length ≤ offT p n) :
    Tab (w.setRow g ((ints xs).take o ++ (ints zs ++ (ints xs).drop (o + (ints zs).length))).toArray) B b g p n k (overL xs o zs) := by
  have hw := h.whole h0
  have e : (ints xs).take o ++ (ints zs ++ (ints xs).drop (o + (ints zs).length)) = ints (overL xs o zs) := by simp [overL, ints, List.map_take, List.map_drop]
  rw [e]
  refine ⟨World.ownsRow.kept (row := some g) h.tab ⟨rfl, rfl, rfl, by simp [World.setRow], fun i hi hne => setRow_other w g i _ (fun e => hne (by rw [e]))⟩ (.inr (by simp [Value.ownBlock]; exact h.ne)), whole_row ?_ hm h.lt.2.2.1 (setRow_heap w g _ _ _ _ hw), ?_⟩
  · rw [over_len (by rw [h.len]; exact hz), h.len]
  · rw [over_len (by rw [h.len]; exact hz), h.len]
end Go.Proofs.Ytmkbjkmpincogaa
