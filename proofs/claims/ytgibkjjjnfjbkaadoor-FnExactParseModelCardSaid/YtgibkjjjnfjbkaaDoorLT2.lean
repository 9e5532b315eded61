/-
  Plain: what reads back out of a model's text, on both sides.
-/
import Derived.Test.YtgibkjjjnfjbkaaDoorLT1
namespace Go.Proofs.YtgibkjjjnfjbkaaDoor
set_option linter.unusedVariables false

theorem spx_three : ∀ a b c : Fin 9, spx [UInt8.ofNat (48 + a.val), 120, UInt8.ofNat (48 + b.val), 120, UInt8.ofNat (48 + c.val)] = [[UInt8.ofNat (48 + a.val)], [UInt8.ofNat (48 + b.val)], [UInt8.ofNat (48 + c.val)]] := by decide +kernel
theorem dg10_one {n : Int} (h0 : 0 ≤ n) (h : n < 9) : ∃ a : Fin 9, dg10 n = [UInt8.ofNat (48 + a.val)] := ⟨⟨n.toNat, by omega⟩, by unfold dg10; exact Lib.decDigits_one (by omega)⟩
theorem spx_tri {x y z : Int} (hx : 0 ≤ x ∧ x < 9) (hy : 0 ≤ y ∧ y < 9) (hz : 0 ≤ z ∧ z < 9) : spx (tri10 x y z 120) = [dg10 x, dg10 y, dg10 z] := by
  obtain ⟨a, ha⟩ := dg10_one hx.1 hx.2
  obtain ⟨b, hb⟩ := dg10_one hy.1 hy.2
  obtain ⟨c, hc⟩ := dg10_one hz.1 hz.2
  unfold tri10
  rw [ha, hb, hc]
  exact spx_three a b c
theorem nu_ok {ps : List (List UInt8)} {ns : List Int} (h : ∀ p, p ∈ ps → aoB p = true) (h2 : ps.map aoV = ns) : nuB ps = true ∧ nuA ps = ns := by
  have : nuB ps = true := by unfold nuB; rw [List.all_eq_true]; exact h
  exact ⟨this, by unfold nuA; rw [this, if_pos rfl, h2]⟩
/-- The numbers of the rows, one behind the other. -/
def rowsN (ts gs rs : List Int) (N : Nat) : List Int := (List.range N).flatMap fun k => [ts.getD k 0, gs.getD k 0, rs.getD k 0]
theorem rowsN_len (ts gs rs : List Int) : ∀ N, (rowsN ts gs rs N).length = 3 * N
  | 0 => rfl
  | N + 1 => by
    have := rowsN_len ts gs rs N
    unfold rowsN at this ⊢
    rw [List.range_succ, List.flatMap_append, List.length_append, this]
    simp
    omega
theorem rowsN_at (ts gs rs : List Int) (j k : Nat) (hj : j < 3) : ∀ N, k < N → (rowsN ts gs rs N).getD (3 * k + j) 0 = [ts.getD k 0, gs.getD k 0, rs.getD k 0].getD j 0
  | 0, h => by omega
  | N + 1, h => by
    have hl := rowsN_len ts gs rs N
    have e : rowsN ts gs rs (N + 1) = rowsN ts gs rs N ++ [ts.getD N 0, gs.getD N 0, rs.getD N 0] := by
      unfold rowsN
      rw [List.range_succ, List.flatMap_append]
      simp
    rw [e]
    by_cases hk : k < N
    · rw [List.getD_eq_getElem?_getD, List.getElem?_append_left (by omega), ← List.getD_eq_getElem?_getD]
      exact rowsN_at ts gs rs j k hj N hk
    · obtain rfl : k = N := by omega
      rw [List.getD_eq_getElem?_getD, List.getElem?_append_right (by omega), ← List.getD_eq_getElem?_getD, hl, Nat.add_sub_cancel_left]
theorem thr_rows {ts gs rs xs : List Int} {j N : Nat} (hj : j < 3) (hx : xs.length = N) (h : ∀ k, [ts.getD k 0, gs.getD k 0, rs.getD k 0].getD j 0 = xs.getD k 0) : thr j (rowsN ts gs rs N) N = xs := by
  apply List.ext_getElem?
  intro i
  unfold thr
  by_cases hi : i < N
  · rw [List.getElem?_map, List.getElem?_range hi, Option.map_some, rowsN_at ts gs rs j i hj N hi, h i, List.getD_eq_getElem?_getD, List.getElem?_eq_getElem (by omega)]
    rfl
  · rw [List.getElem?_eq_none (by simp; omega), List.getElem?_eq_none (by omega)]
/-- THE PROGRAM READS A MODEL'S TEXT BACK. -/
theorem prog_back {x y z : Int} {ts gs rs : List Int} (h : moB x y z ts gs rs = true) :
    rmB (wdT x y z ts gs rs ts.length) = true ∧ rmX 0 (wdT x y z ts gs rs ts.length) = x ∧ rmX 1 (wdT x y z ts gs rs ts.length) = y ∧ rmX 2 (wdT x y z ts gs rs ts.length) = z ∧
      rmL 0 (wdT x y z ts gs rs ts.length) = ts ∧ rmL 1 (wdT x y z ts gs rs ts.length) = gs ∧ rmL 2 (wdT x y z ts gs rs ts.length) = rs := by
  have H := mtOk h
  obtain ⟨hg, a1, a2, a3, _⟩ := mo_true h
  obtain ⟨x1, x2, y1, y2, z1, z2, hp⟩ := good_true hg
  obtain ⟨N, hN⟩ : ∃ N, ts.length = N := ⟨_, rfl⟩
  have hNn : (N : Int) = x * y * z := by have := H.t; omega
  rw [hN] at H ⊢
  have w1 : (wdT x y z ts gs rs N).getD 1 [] = tri10 x y z 120 := rfl
  have w2 : (wdT x y z ts gs rs N).drop 2 = (List.range N).flatMap (wdR ts gs rs) := rfl
  have wl : ∀ n, ((List.range n).flatMap (wdR ts gs rs)).length = 3 * n := by
    intro n
    induction n with
    | zero => rfl
    | succ n ih => rw [List.range_succ, List.flatMap_append, List.length_append, ih]; simp [wdR]; omega
  have wlen : (wdT x y z ts gs rs N).length = 2 + 3 * N := by unfold wdT; rw [List.length_cons, List.length_cons, wl]; omega
  obtain ⟨k1, k2⟩ := nu_ok (ps := spx (tri10 x y z 120)) (ns := [x, y, z]) (by
    rw [spx_tri ⟨by omega, by omega⟩ ⟨by omega, by omega⟩ ⟨by omega, by omega⟩]
    intro p hp
    simp only [List.mem_cons, List.not_mem_nil, or_false] at hp
    rcases hp with rfl | rfl | rfl
    · exact (dg10_ao (by omega) (by omega)).1
    · exact (dg10_ao (by omega) (by omega)).1
    · exact (dg10_ao (by omega) (by omega)).1) (by
    rw [spx_tri ⟨by omega, by omega⟩ ⟨by omega, by omega⟩ ⟨by omega, by omega⟩]
    simp only [List.map_cons, List.map_nil]
    rw [(dg10_ao (n := x) (by omega) (by omega)).2, (dg10_ao (n := y) (by omega) (by omega)).2, (dg10_ao (n := z) (by omega) (by omega)).2])
  have hS : rmS (wdT x y z ts gs rs N) = [x, y, z] := by unfold rmS; rw [w1, k2]
  have hZ0 : rmZ 0 (wdT x y z ts gs rs N) = x := by unfold rmZ; rw [hS]; rfl
  have hZ1 : rmZ 1 (wdT x y z ts gs rs N) = y := by unfold rmZ; rw [hS]; rfl
  have hZ2 : rmZ 2 (wdT x y z ts gs rs N) = z := by unfold rmZ; rw [hS]; rfl
  have hNN : rmN (wdT x y z ts gs rs N) = x * y * z := by unfold rmN; rw [hZ0, hZ1, hZ2]
  have rows : ∀ n, n ≤ N → (∀ p, p ∈ (List.range n).flatMap (wdR ts gs rs) → aoB p = true) ∧ ((List.range n).flatMap (wdR ts gs rs)).map aoV = rowsN ts gs rs n := by
    intro n
    induction n with
    | zero => exact fun _ => ⟨fun p hp => (by cases hp), rfl⟩
    | succ n ih =>
      intro hn
      obtain ⟨i1, i2⟩ := ih (by omega)
      obtain ⟨⟨q1, q2⟩, ⟨q3, q4⟩, q5, q6⟩ := H.row n (by omega)
      have e : rowsN ts gs rs (n + 1) = rowsN ts gs rs n ++ [ts.getD n 0, gs.getD n 0, rs.getD n 0] := by
        unfold rowsN
        rw [List.range_succ, List.flatMap_append]
        simp
      rw [List.range_succ, List.flatMap_append, List.map_append, i2, e]
      constructor
      · intro p hp
        rcases List.mem_append.1 hp with hp | hp
        · exact i1 p hp
        · simp only [List.flatMap_cons, List.flatMap_nil, List.append_nil, wdR, List.mem_cons, List.not_mem_nil, or_false] at hp
          rcases hp with rfl | rfl | rfl
          · exact (dg10_ao (by omega) (by omega)).1
          · exact (dg10_ao (by omega) (by omega)).1
          · exact (dg10_ao (by omega) (by omega)).1
      · simp only [List.flatMap_cons, List.flatMap_nil, List.append_nil, wdR, List.map_cons, List.map_nil]
        rw [(dg10_ao (n := ts.getD n 0) (by omega) (by omega)).2, (dg10_ao (n := gs.getD n 0) (by omega) (by omega)).2, (dg10_ao (n := rs.getD n 0) (by omega) (by omega)).2]
  obtain ⟨r1, r2⟩ := rows N (Nat.le_refl _)
  obtain ⟨m1, m2⟩ := nu_ok r1 r2
  have hB : rmB (wdT x y z ts gs rs N) = true := by
    unfold rmB
    rw [w1, w2, k1, hS, hZ0, hZ1, hZ2, hg, hNN, m1, decide_eq_true (show 2 ≤ (wdT x y z ts gs rs N).length by omega), decide_eq_true (show ((wdT x y z ts gs rs N).length : Int) = 2 + 3 * (x * y * z) by omega)]
    rfl
  have hK : (x * y * z).toNat = N := by omega
  refine ⟨hB, by unfold rmX; rw [hB, if_pos rfl, hZ0], by unfold rmX; rw [hB, if_pos rfl, hZ1], by unfold rmX; rw [hB, if_pos rfl, hZ2], ?_, ?_, ?_⟩
  · unfold rmL
    rw [hB, if_pos rfl, w2, m2, hNN, hK]
    exact thr_rows (by omega) H.t (fun k => rfl)
  · unfold rmL
    rw [hB, if_pos rfl, w2, m2, hNN, hK]
    exact thr_rows (by omega) H.g (fun k => rfl)
  · unfold rmL
    rw [hB, if_pos rfl, w2, m2, hNN, hK]
    exact thr_rows (by omega) H.r (fun k => rfl)

/-! ### The model's reading -/
def mdL (s : List UInt8) : List (List UInt8) := spb 10 [] s
def mdW (s : List UInt8) : List (List UInt8) := spb 32 [] ((mdL s).getD 0 [])
def mdN (s : List UInt8) : List (List UInt8) := spb 120 [] ((mdW s).getD 1 [])
def mdB (s : List UInt8) : Bool := decide ((mdL s).length ≤ 122 ∧ (mdW s).length = 2 ∧ (mdN s).length = 3)
def mdX (j : Nat) (s : List UInt8) : Int := rdL ((mdN s).getD j [])
/-- The numbers number j of the lines that have three. -/
def mdP (j : Nat) (ls : List (List UInt8)) : List Int := ls.flatMap fun l => if (spb 32 [] l).length = 3 then [rdL ((spb 32 [] l).getD j [])] else []
def mdT (j : Nat) (s : List UInt8) : List Int := mdP j ((mdL s).drop 1)
theorem mdP_len (j : Nat) : ∀ ls, (mdP j ls).length ≤ ls.length
  | [] => Nat.le_refl _
  | l :: r => by
    have := mdP_len j r
    have h1 : (if (spb 32 [] l).length = 3 then [rdL ((spb 32 [] l).getD j [])] else []).length ≤ 1 := by split <;> simp
    unfold mdP at this ⊢
    rw [List.flatMap_cons, List.length_append, List.length_cons]
    omega
theorem spb_tri (a b c : Int) (s : UInt8) (hs : s = 32 ∨ s = 10 ∨ s = 120) : spb s [] (tri10 a b c s) = [dg10 a, dg10 b, dg10 c] := by
  unfold tri10
  rw [spb_app _ _ [] (dg10_no hs), spb_app _ _ [] (dg10_no hs), spb_end _ [] (dg10_no hs)]
  rfl
theorem tri_no10 (a b c : Int) (s : UInt8) (hs : s ≠ 10) : (10 : UInt8) ∉ tri10 a b c s := fun h => by
  unfold tri10 at h
  rcases List.mem_append.1 h with h | h
  · exact dg10_no (.inr (.inl rfl)) h
  · rcases List.mem_cons.1 h with h | h
    · exact hs h.symm
    · rcases List.mem_append.1 h with h | h
      · exact dg10_no (.inr (.inl rfl)) h
      · rcases List.mem_cons.1 h with h | h
        · exact hs h.symm
        · exact dg10_no (.inr (.inl rfl)) h
theorem tri_no32 (a b c : Int) : (32 : UInt8) ∉ tri10 a b c 120 := fun h => by
  have := tri_nosp 32 h
  revert this
  decide
theorem spb_rows {ts gs rs : List Int} : ∀ k r, spb 10 [] (txR ts gs rs k ++ r) = (List.range k).map (lnR ts gs rs) ++ spb 10 [] r
  | 0, r => rfl
  | k + 1, r => by
    show spb 10 [] (txR ts gs rs k ++ (lnR ts gs rs k ++ [10]) ++ r) = _
    have e : spb 10 [] (lnR ts gs rs k ++ 10 :: r) = lnR ts gs rs k :: spb 10 [] r := spb_app _ _ [] (tri_no10 _ _ _ 32 (by decide))
    rw [List.append_assoc, spb_rows k, List.append_assoc, List.singleton_append, e, List.range_succ, List.map_append]
    simp
theorem md_rows {ts gs rs xs : List Int} {j N : Nat} (hx : xs.length = N) (h : ∀ k, k < N → rdL ([dg10 (ts.getD k 0), dg10 (gs.getD k 0), dg10 (rs.getD k 0)].getD j []) = xs.getD k 0) : mdP j ((List.range N).map (lnR ts gs rs) ++ [[]]) = xs := by
  have key : ∀ n, n ≤ N → mdP j ((List.range n).map (lnR ts gs rs)) = xs.take n := by
    intro n
    induction n with
    | zero => intro _; rfl
    | succ n ih =>
      intro hn
      have e : mdP j ((List.range (n + 1)).map (lnR ts gs rs)) = mdP j ((List.range n).map (lnR ts gs rs)) ++ mdP j [lnR ts gs rs n] := by
        unfold mdP
        rw [List.range_succ, List.map_append, List.flatMap_append]
        rfl
      rw [e, ih (by omega), List.take_succ_eq_append_getElem (by omega)]
      congr 1
      unfold mdP lnR
      simp only [List.flatMap_cons, List.flatMap_nil, List.append_nil]
      rw [spb_tri _ _ _ 32 (.inl rfl), if_pos (by rfl), h n (by omega), List.getD_eq_getElem?_getD, List.getElem?_eq_getElem (by omega)]
      rfl
  have e : mdP j ((List.range N).map (lnR ts gs rs) ++ [[]]) = mdP j ((List.range N).map (lnR ts gs rs)) ++ mdP j [[]] := by
    unfold mdP
    rw [List.flatMap_append]
  have e0 : mdP j [[]] = [] := rfl
  rw [e, e0, List.append_nil, key N (Nat.le_refl _), ← hx, List.take_length]
/-- THE MODEL READS A MODEL'S TEXT BACK. -/
theorem model_back {x y z : Int} {ts gs rs : List Int} (h : moB x y z ts gs rs = true) :
    mdB (mtT x y z ts gs rs ts.length).data.toList = true ∧ mdX 0 (mtT x y z ts gs rs ts.length).data.toList = x ∧ mdX 1 (mtT x y z ts gs rs ts.length).data.toList = y ∧ mdX 2 (mtT x y z ts gs rs ts.length).data.toList = z ∧
      mdT 0 (mtT x y z ts gs rs ts.length).data.toList = ts ∧ mdT 1 (mtT x y z ts gs rs ts.length).data.toList = gs ∧ mdT 2 (mtT x y z ts gs rs ts.length).data.toList = rs := by
  have H := mtOk h
  obtain ⟨hg, a1, a2, a3, _⟩ := mo_true h
  obtain ⟨x1, x2, y1, y2, z1, z2, hp⟩ := good_true hg
  obtain ⟨N, hN⟩ : ∃ N, ts.length = N := ⟨_, rfl⟩
  rw [hN] at H ⊢
  rw [tx_data H N (Nat.le_refl _)]
  have hL : mdL (wdH ++ 32 :: (tri10 x y z 120 ++ 10 :: txR ts gs rs N)) = (wdH ++ 32 :: tri10 x y z 120) :: ((List.range N).map (lnR ts gs rs) ++ [[]]) := by
    unfold mdL
    have e : wdH ++ 32 :: (tri10 x y z 120 ++ 10 :: txR ts gs rs N) = (wdH ++ 32 :: tri10 x y z 120) ++ 10 :: txR ts gs rs N := by simp
    rw [e, spb_app _ _ [] (fun hm => by
      rcases List.mem_append.1 hm with hm | hm
      · revert hm; decide
      · rcases List.mem_cons.1 hm with hm | hm
        · revert hm; decide
        · exact tri_no10 _ _ _ 120 (by decide) hm)]
    have := spb_rows (ts := ts) (gs := gs) (rs := rs) N []
    rw [List.append_nil] at this
    rw [this]
    rfl
  have hW : mdW (wdH ++ 32 :: (tri10 x y z 120 ++ 10 :: txR ts gs rs N)) = [wdH, tri10 x y z 120] := by
    unfold mdW
    rw [hL]
    show spb 32 [] (wdH ++ 32 :: tri10 x y z 120) = _
    rw [spb_app _ _ [] (by decide), spb_end _ [] (tri_no32 _ _ _)]
    rfl
  have hNs : mdN (wdH ++ 32 :: (tri10 x y z 120 ++ 10 :: txR ts gs rs N)) = [dg10 x, dg10 y, dg10 z] := by
    unfold mdN
    rw [hW]
    exact spb_tri _ _ _ 120 (.inr (.inr rfl))
  have hB : mdB (wdH ++ 32 :: (tri10 x y z 120 ++ 10 :: txR ts gs rs N)) = true := by
    unfold mdB
    rw [hL, hW, hNs]
    have := H.n
    refine decide_eq_true ⟨?_, rfl, rfl⟩
    simp
    omega
  have rr : ∀ {n : Int}, 0 ≤ n → n ≤ 10000 → rdL (dg10 n) = n := fun h0 h1 => dg10_rd h0 (by omega)
  refine ⟨hB, ?_, ?_, ?_, ?_, ?_, ?_⟩
  · unfold mdX; rw [hNs]; exact rr (by omega) (by omega)
  · unfold mdX; rw [hNs]; exact rr (by omega) (by omega)
  · unfold mdX; rw [hNs]; exact rr (by omega) (by omega)
  · unfold mdT; rw [hL]
    exact md_rows H.t fun k hk => rr (H.row k hk).1.1 (by have := (H.row k hk).1.2; omega)
  · unfold mdT; rw [hL]
    exact md_rows H.g fun k hk => rr (H.row k hk).2.1.1 (by have := (H.row k hk).2.1.2; omega)
  · unfold mdT; rw [hL]
    exact md_rows H.r fun k hk => rr (H.row k hk).2.2.1 (by have := (H.row k hk).2.2.2; omega)
end Go.Proofs.YtgibkjjjnfjbkaaDoor
