/-
  Floats, plain: the float of a whole number, sums, products and quotients of such stay finite and within a power of two; so what is cut from them is a whole number within bounds.
-/
import Derived.WalkLawsBesides
namespace Go.Proofs.Ytdodmcmkelegoaa
open Ieee
set_option linter.unusedVariables false

theorem d_sw : double.signWeight = 9223372036854775808 := by decide +kernel
theorem d_bin : double.binade = 4503599627370496 := by decide +kernel
theorem d_inf : double.infRung = 9218868437227405312 := by decide +kernel
theorem d_lp : double.leastPlace = -1074 := by decide +kernel
theorem d_fb : double.fractionBits = 52 := rfl

/-- 'm * 2 ^ e' is below '2 ^ (k + 1)'. -/
def Up (k : Int) (m : Nat) (e : Int) : Prop := m = 0 ∨ (m.log2 : Int) + e ≤ k
theorem Up.mono {k l : Int} {m : Nat} {e : Int} (h : Up k m e) (hl : k ≤ l) : Up l m e := by
  rcases h with h | h
  · exact Or.inl h
  · exact Or.inr (by omega)

theorem log2_up (m : Nat) : m < 2 ^ (m.log2 + 1) := Nat.lt_log2_self
theorem log2_dn {m : Nat} (h : m ≠ 0) : 2 ^ m.log2 ≤ m := Nat.log2_self_le h
theorem log2_lt {m k : Nat} (h : m < 2 ^ k) (h0 : m ≠ 0) : m.log2 < k := (Nat.log2_lt h0).2 h
theorem le_log2 {m k : Nat} (h : 2 ^ k ≤ m) (h0 : m ≠ 0) : k ≤ m.log2 := (Nat.le_log2 h0).2 h

theorem read_word (neg : Bool) {r : Nat} (h : r < 9218868437227405312) :
    double.read (double.word neg r) = if r < 4503599627370496 then Datum.number neg r (-1074) else Datum.number neg (4503599627370496 + r % 4503599627370496) (-1074 + ((r / 4503599627370496 - 1 : Nat) : Int)) := by
  have e1 : (double.word neg r) % 9223372036854775808 = r := by
    unfold Format.word; rw [d_sw]; cases neg <;> simp <;> omega
  have e2 : ((double.word neg r) / 9223372036854775808 % 2 == 1) = neg := by
    unfold Format.word; rw [d_sw]; cases neg <;> simp <;> omega
  unfold Format.read
  simp only [d_sw, d_bin, d_inf, d_lp, e1, e2, h, if_true]

theorem cut_box (neg : Bool) {n drop : Nat} (h : n < 2 ^ (53 + drop)) : Toward.even.cut neg n drop ≤ 9007199254740992 := by
  have hlow : n / (1 <<< min drop (n.log2 + 2)) < 9007199254740992 := by
    rw [Nat.shiftLeft_eq, Nat.one_mul, Nat.div_lt_iff_lt_mul (Nat.two_pow_pos _)]
    by_cases hd : drop ≤ n.log2 + 2
    · rw [Nat.min_eq_left hd]
      rw [Nat.pow_add] at h
      exact h
    · rw [Nat.min_eq_right (by omega)]
      have a := log2_up n
      have b : 2 ^ (n.log2 + 1) ≤ 2 ^ (n.log2 + 2) := Nat.pow_le_pow_right (by omega) (by omega)
      have c : 0 < 2 ^ (n.log2 + 2) := Nat.two_pow_pos _
      omega
  unfold Toward.cut
  simp only
  generalize hm : (decide ((1 <<< min drop (n.log2 + 2)) < 2 * (n % (1 <<< min drop (n.log2 + 2)))) || (1 <<< min drop (n.log2 + 2) == 2 * (n % (1 <<< min drop (n.log2 + 2))) && n / (1 <<< min drop (n.log2 + 2)) % 2 == 1)) = more
  have : more.toNat ≤ 1 := by cases more <;> simp
  omega

theorem cut_least (neg : Bool) {n drop : Nat} (h : 2 ^ (52 + drop) ≤ n) : 4503599627370496 ≤ Toward.even.cut neg n drop := by
  have hn : n ≠ 0 := by have := Nat.two_pow_pos (52 + drop); omega
  have hl := le_log2 h hn
  have hlow : 4503599627370496 ≤ n / (1 <<< min drop (n.log2 + 2)) := by
    rw [Nat.shiftLeft_eq, Nat.one_mul, Nat.min_eq_left (by omega), Nat.le_div_iff_mul_le (Nat.two_pow_pos _)]
    rw [Nat.pow_add] at h
    exact h
  unfold Toward.cut
  simp only
  exact Nat.le_trans hlow (Nat.le_add_right _ _)

theorem near (neg : Bool) (m : Nat) (p k : Int) (h : Up k m p) (k0 : 0 ≤ k) (k1 : k ≤ 1000) :
    ∃ m' e', double.read (double.nearest neg m p) = Datum.number neg m' e' ∧ Up (k + 1) m' e' ∧ (m ≠ 0 → 0 ≤ (m.log2 : Int) + p → m' ≠ 0 ∧ 0 ≤ (m'.log2 : Int) + e') := by
  by_cases hm : m = 0
  · subst hm
    refine ⟨0, -1074, ?_, Or.inl rfl, fun h => absurd rfl h⟩
    unfold Format.nearest
    rw [if_pos rfl, read_word neg (by omega), if_pos (by omega)]
  · have hL1 := log2_dn hm
    have hL2 := log2_up m
    have hk : (m.log2 : Int) + p ≤ k := by
      rcases h with h | h
      · exact absurd h hm
      · exact h
    unfold Format.nearest
    rw [if_neg hm]
    simp only [d_lp, d_bin, d_inf, d_fb]
    generalize m.log2 = L at *
    obtain ⟨last, hlast⟩ : ∃ l : Int, l = max (p + (L : Int) - ((52 : Nat) : Int)) (-1074) := ⟨_, rfl⟩
    rw [← hlast]
    have la : p + (L : Int) - 52 ≤ last := by omega
    have lb : -1074 ≤ last := by omega
    have lc : last ≤ k - 52 := by omega
    have ld : 0 ≤ (L : Int) + p → last = p + (L : Int) - 52 := fun h => by omega
    clear hlast
    generalize hK : Toward.even.cut neg (m <<< (p - last).toNat) (last - p).toNat = kept
    have kb : kept ≤ 9007199254740992 := by
      rw [← hK]
      refine cut_box neg ?_
      rw [Nat.shiftLeft_eq]
      calc m * 2 ^ (p - last).toNat < 2 ^ (L + 1) * 2 ^ (p - last).toNat := (Nat.mul_lt_mul_right (Nat.two_pow_pos _)).2 hL2
        _ = 2 ^ (L + 1 + (p - last).toNat) := (Nat.pow_add _ _ _).symm
        _ ≤ 2 ^ (53 + (last - p).toNat) := Nat.pow_le_pow_right (by omega) (by omega)
    have kl : 0 ≤ (L : Int) + p → 4503599627370496 ≤ kept := by
      intro hlp
      have := ld hlp
      rw [← hK]
      refine cut_least neg ?_
      rw [Nat.shiftLeft_eq]
      calc 2 ^ (52 + (last - p).toNat) ≤ 2 ^ (L + (p - last).toNat) := Nat.pow_le_pow_right (by omega) (by omega)
        _ = 2 ^ L * 2 ^ (p - last).toNat := Nat.pow_add _ _ _
        _ ≤ m * 2 ^ (p - last).toNat := Nat.mul_le_mul_right _ hL1
    clear hK hL1 hL2
    obtain ⟨q, hq⟩ : ∃ q : Nat, q = (last - -1074).toNat := ⟨_, rfl⟩
    rw [← hq]
    have qa : (q : Int) = last + 1074 := by omega
    have qb : (q : Int) ≤ k + 1022 := by omega
    have hmin : min (q * 4503599627370496 + kept) 9218868437227405312 = q * 4503599627370496 + kept := Nat.min_eq_left (by omega)
    rw [hmin]
    obtain ⟨r, hr⟩ : ∃ r : Nat, r = q * 4503599627370496 + kept := ⟨_, rfl⟩
    rw [← hr, read_word neg (by omega)]
    by_cases hs : r < 4503599627370496
    · rw [if_pos hs]
      refine ⟨r, -1074, rfl, ?_, fun _ h => ?_⟩
      · by_cases hr0 : r = 0
        · exact Or.inl hr0
        · have := log2_lt (m := r) (k := 52) (by omega) hr0
          exact Or.inr (by omega)
      · have := kl h
        omega
    · rw [if_neg hs]
      obtain ⟨t, ht⟩ : ∃ t : Nat, t = 4503599627370496 + r % 4503599627370496 := ⟨_, rfl⟩
      rw [← ht]
      have t0 : t ≠ 0 := by omega
      have t1 : t.log2 = 52 := by
        have a := log2_lt (m := t) (k := 53) (by omega) t0
        have b := le_log2 (m := t) (k := 52) (by omega) t0
        omega
      refine ⟨t, _, rfl, Or.inr ?_, fun _ h => ⟨t0, ?_⟩⟩
      · rw [t1]; omega
      · rw [t1]
        have := kl h
        have := ld h
        omega

/-- A word of a finite number below '2 ^ (k + 1)'. -/
def Fl (k : Int) (x : Nat) : Prop := ∃ s m e, double.read x = Datum.number s m e ∧ Up k m e
/-- A word of a finite number that is '2 ^ j' or more, with its sign. -/
def FlG (j : Int) (x : Nat) : Prop := ∃ s m e, double.read x = Datum.number s m e ∧ m ≠ 0 ∧ j ≤ (m.log2 : Int) + e
theorem Fl.mono {k l : Int} {x : Nat} (h : Fl k x) (hl : k ≤ l) : Fl l x := by
  obtain ⟨s, m, e, h1, h2⟩ := h
  exact ⟨s, m, e, h1, h2.mono hl⟩

theorem fl_int (n : Int) (k : Nat) (h : n.natAbs < 2 ^ (k + 1)) (k1 : k ≤ 1000) : Fl (k + 1) (floatOfInt .f64 n) ∧ (n ≠ 0 → FlG 0 (floatOfInt .f64 n)) := by
  have hu : Up (k : Int) n.natAbs 0 := by
    by_cases h0 : n.natAbs = 0
    · exact Or.inl h0
    · have := log2_lt h h0
      exact Or.inr (by omega)
  obtain ⟨m, e, hr, h1, h2⟩ := near (decide (n < 0)) n.natAbs 0 k hu (by omega) (by omega)
  have hr' : double.read (floatOfInt .f64 n) = Datum.number (decide (n < 0)) m e := hr
  exact ⟨⟨_, m, e, hr', h1⟩, fun hn => ⟨_, m, e, hr', h2 (by omega) (by omega)⟩⟩

theorem fl_mul {k l : Int} {x y : Nat} (hx : Fl k x) (hy : Fl l y) (h0 : 0 ≤ k + l + 1) (h1 : k + l + 1 ≤ 1000) : ∃ r, floatBits .mul .f64 x y = some r ∧ Fl (k + l + 2) r := by
  obtain ⟨s, m, i, ex, ux⟩ := hx
  obtain ⟨t, n, j, ey, uy⟩ := hy
  have hu : Up (k + l + 1) (m * n) (i + j) := by
    rcases ux with rfl | ux
    · exact Or.inl (Nat.zero_mul _)
    rcases uy with rfl | uy
    · exact Or.inl (Nat.mul_zero _)
    by_cases h0 : m * n = 0
    · exact Or.inl h0
    · refine Or.inr ?_
      have : (m * n).log2 < m.log2 + 1 + (n.log2 + 1) := by
        refine log2_lt ?_ h0
        rw [Nat.pow_add]
        exact Nat.mul_lt_mul'' (log2_up m) (log2_up n)
      omega
  obtain ⟨m', e', hr, h2, _⟩ := near (s ^^ t) (m * n) (i + j) (k + l + 1) hu h0 h1
  refine ⟨double.nearest (s ^^ t) (m * n) (i + j), ?_, _, m', e', hr, h2.mono (by omega)⟩
  show (((double.read x).product (double.read y)).map double.write) = _
  rw [ex, ey]
  rfl

theorem signed_abs (s : Bool) (m u : Nat) : (signed s m u).natAbs = m <<< u := by
  unfold signed
  cases s
  · show ((m <<< u : Nat) : Int).natAbs = _
    rw [Int.natAbs_natCast]
  · show (-((m <<< u : Nat) : Int)).natAbs = _
    rw [Int.natAbs_neg, Int.natAbs_natCast]

theorem shl_lt {m u K : Nat} {k : Int} {i base : Int} (h : Up k m i) (hu : u = (i - base).toNat) (hb : base ≤ i) (hK : (K : Int) = k + 1 - base) : m <<< u < 2 ^ K := by
  rw [Nat.shiftLeft_eq]
  rcases h with rfl | h
  · rw [Nat.zero_mul]; exact Nat.two_pow_pos _
  · calc m * 2 ^ u < 2 ^ (m.log2 + 1) * 2 ^ u := (Nat.mul_lt_mul_right (Nat.two_pow_pos _)).2 (log2_up m)
      _ = 2 ^ (m.log2 + 1 + u) := (Nat.pow_add _ _ _).symm
      _ ≤ 2 ^ K := Nat.pow_le_pow_right (by omega) (by omega)

theorem up_sum {k : Int} {s t : Bool} {m n : Nat} {i j : Int} (ux : Up k m i) (uy : Up k n j) (hk : 0 ≤ k) :
    Up (k + 1) (signed s m (i - min i j).toNat + signed t n (j - min i j).toNat).natAbs (min i j) := by
  obtain ⟨base, hb⟩ : ∃ b, b = min i j := ⟨_, rfl⟩
  rw [← hb]
  by_cases h0 : (signed s m (i - base).toNat + signed t n (j - base).toNat).natAbs = 0
  · exact Or.inl h0
  · by_cases hkb : base ≤ k + 1
    · obtain ⟨K, hK⟩ : ∃ K : Nat, (K : Int) = k + 1 - base := ⟨(k + 1 - base).toNat, by omega⟩
      have a := shl_lt ux rfl (by omega : base ≤ i) hK
      have b := shl_lt uy rfl (by omega : base ≤ j) hK
      have c := signed_abs s m (i - base).toNat
      have d := signed_abs t n (j - base).toNat
      have e : (signed s m (i - base).toNat + signed t n (j - base).toNat).natAbs < 2 ^ (K + 1) := by
        rw [Nat.pow_succ]
        omega
      have := log2_lt e h0
      exact Or.inr (by omega)
    · exfalso
      apply h0
      have hm : m = 0 := by
        rcases ux with h | h
        · exact h
        · omega
      have hn : n = 0 := by
        rcases uy with h | h
        · exact h
        · omega
      subst hm hn
      unfold signed
      cases s <;> cases t <;> simp

theorem fl_sum {k : Int} {s t : Bool} {m n : Nat} {i j : Int} (ux : Up k m i) (uy : Up k n j) (hk : 0 ≤ k) (h1 : k + 1 ≤ 1000) :
    ∃ r, ((Datum.number s m i).sum (Datum.number t n j)).map double.write = some r ∧ Fl (k + 2) r := by
  have hu := up_sum (s := s) (t := t) ux uy hk
  obtain ⟨m', e', hr, h2, _⟩ := near (if signed s m (i - min i j).toNat + signed t n (j - min i j).toNat = 0 then s && t else decide (signed s m (i - min i j).toNat + signed t n (j - min i j).toNat < 0)) _ (min i j) (k + 1) hu (by omega) h1
  refine ⟨_, rfl, _, m', e', hr, h2.mono (by omega)⟩

theorem fl_add {k : Int} {x y : Nat} (hx : Fl k x) (hy : Fl k y) (hk : 0 ≤ k) (h1 : k + 1 ≤ 1000) : ∃ r, floatBits .add .f64 x y = some r ∧ Fl (k + 2) r := by
  obtain ⟨s, m, i, ex, ux⟩ := hx
  obtain ⟨t, n, j, ey, uy⟩ := hy
  obtain ⟨r, hr, hf⟩ := fl_sum (s := s) (t := t) ux uy hk h1
  refine ⟨r, ?_, hf⟩
  show (((double.read x).sum (double.read y)).map double.write) = _
  rw [ex, ey]
  exact hr

theorem fl_sub {k : Int} {x y : Nat} (hx : Fl k x) (hy : Fl k y) (hk : 0 ≤ k) (h1 : k + 1 ≤ 1000) : ∃ r, floatBits .sub .f64 x y = some r ∧ Fl (k + 2) r := by
  obtain ⟨s, m, i, ex, ux⟩ := hx
  obtain ⟨t, n, j, ey, uy⟩ := hy
  obtain ⟨r, hr, hf⟩ := fl_sum (s := s) (t := !t) ux uy hk h1
  refine ⟨r, ?_, hf⟩
  show (((double.read x).sum (double.read y).opposite).map double.write) = _
  rw [ex, ey]
  exact hr

theorem fl_div {k j : Int} {x y : Nat} (hx : Fl k x) (hy : FlG j y) (h0 : 0 ≤ k - j) (h1 : k - j ≤ 1000) : ∃ r, floatBits .quo .f64 x y = some r ∧ Fl (k - j + 1) r := by
  obtain ⟨s, m, i, ex, ux⟩ := hx
  obtain ⟨t, n, e, ey, n0, hn⟩ := hy
  have hu : Up (k - j) (2 * ((m <<< (54 + n.log2 - m.log2)) / n) + ((m <<< (54 + n.log2 - m.log2)) % n != 0).toNat) (i - e - (54 + n.log2 - m.log2 : Nat) - 1) := by
    obtain ⟨more, hmore⟩ : ∃ a, a = 54 + n.log2 - m.log2 := ⟨_, rfl⟩
    rw [← hmore]
    generalize hbit : ((m <<< more) % n != 0).toNat = bit
    have hb1 : bit ≤ 1 := by rw [← hbit]; cases ((m <<< more) % n != 0) <;> simp
    by_cases hz : 2 * ((m <<< more) / n) + bit = 0
    · exact Or.inl hz
    · have hm : m ≠ 0 := by
        rintro rfl
        apply hz
        have e : (0 <<< more : Nat) = 0 := by simp
        rw [e] at hbit ⊢
        simp at hbit
        simp [← hbit]
      have hk : (m.log2 : Int) + i ≤ k := by
        rcases ux with h | h
        · exact absurd h hm
        · exact h
      refine Or.inr ?_
      have hq : (m <<< more) / n < 2 ^ (m.log2 + 1 + more - n.log2) := by
        rw [Nat.div_lt_iff_lt_mul (by omega), Nat.shiftLeft_eq]
        calc m * 2 ^ more < 2 ^ (m.log2 + 1) * 2 ^ more := (Nat.mul_lt_mul_right (Nat.two_pow_pos _)).2 (log2_up m)
          _ = 2 ^ (m.log2 + 1 + more - n.log2 + n.log2) := by rw [← Nat.pow_add]; congr 1; omega
          _ = 2 ^ (m.log2 + 1 + more - n.log2) * 2 ^ n.log2 := Nat.pow_add _ _ _
          _ ≤ 2 ^ (m.log2 + 1 + more - n.log2) * n := Nat.mul_le_mul_left _ (log2_dn n0)
      have hl : (2 * ((m <<< more) / n) + bit).log2 < m.log2 + 1 + more - n.log2 + 1 := by
        refine log2_lt ?_ hz
        rw [Nat.pow_succ]
        omega
      omega
  obtain ⟨m', e', hr, h2, _⟩ := near (s ^^ t) _ _ (k - j) hu h0 h1
  refine ⟨_, ?_, _, m', e', hr, h2⟩
  show (((double.read x).quotient 54 (double.read y)).map double.write) = _
  rw [ex, ey]
  unfold Datum.quotient
  simp only
  rw [if_neg n0]
  rfl

theorem fl_neg {k : Int} {x : Nat} (hx : Fl k x) : Fl k (Go.Op.negFloat .f64 x) := by
  obtain ⟨s, m, e, h, hu⟩ := hx
  have e1 : (Go.Op.negFloat .f64 x) % 9223372036854775808 = x % 9223372036854775808 := by
    show (x ^^^ 2 ^ 63) % 2 ^ 63 = x % 2 ^ 63
    rw [Nat.xor_mod_two_pow, Nat.mod_self, Nat.xor_zero]
  have : ∃ s', double.read (Go.Op.negFloat .f64 x) = Datum.number s' m e := by
    unfold Format.read at h ⊢
    simp only [d_sw, d_bin, d_inf, d_lp, e1] at h ⊢
    generalize x % 9223372036854775808 = r at *
    by_cases h1 : r < 4503599627370496
    · rw [if_pos h1] at h ⊢
      simp only [Datum.number.injEq] at h
      obtain ⟨_, rfl, rfl⟩ := h
      exact ⟨_, rfl⟩
    · rw [if_neg h1] at h ⊢
      by_cases h2 : r < 9218868437227405312
      · rw [if_pos h2] at h ⊢
        simp only [Datum.number.injEq] at h
        obtain ⟨_, rfl, rfl⟩ := h
        exact ⟨_, rfl⟩
      · rw [if_neg h2] at h
        split at h <;> cases h
  obtain ⟨s', h'⟩ := this
  exact ⟨s', m, e, h', hu⟩

theorem fl_toInt {x : Nat} {K : Nat} (hx : Fl (K : Int) x) (h : K ≤ 61) : ∃ n : Int, floatToIntVal .f64 x .i64 = some n ∧ -(2 ^ (K + 1) : Nat) < n ∧ n < (2 ^ (K + 1) : Nat) := by
  obtain ⟨s, m, e, ex, ux⟩ := hx
  have hc : Toward.zero.cut s (m <<< e.toNat) (-e).toNat < 2 ^ (K + 1) := by
    unfold Toward.cut
    simp only [Bool.toNat_false, Nat.add_zero]
    rcases ux with rfl | ux
    · simp
      exact Nat.two_pow_pos _
    · by_cases he : 0 ≤ e
      · refine Nat.lt_of_le_of_lt (Nat.div_le_self _ _) ?_
        rw [Nat.shiftLeft_eq]
        calc m * 2 ^ e.toNat < 2 ^ (m.log2 + 1) * 2 ^ e.toNat := (Nat.mul_lt_mul_right (Nat.two_pow_pos _)).2 (log2_up m)
          _ = 2 ^ (m.log2 + 1 + e.toNat) := (Nat.pow_add _ _ _).symm
          _ ≤ 2 ^ (K + 1) := Nat.pow_le_pow_right (by omega) (by omega)
      · have e0 : e.toNat = 0 := by omega
        rw [e0, Nat.shiftLeft_zero]
        obtain ⟨drop, hd⟩ : ∃ d : Nat, d = (-e).toNat := ⟨_, rfl⟩
        rw [← hd, Nat.shiftLeft_eq, Nat.one_mul, Nat.div_lt_iff_lt_mul (Nat.two_pow_pos _), ← Nat.pow_add]
        exact Nat.lt_of_lt_of_le (log2_up m) (Nat.pow_le_pow_right (by omega) (by omega))
  obtain ⟨c, hcv⟩ : ∃ c, c = Toward.zero.cut s (m <<< e.toNat) (-e).toNat := ⟨_, rfl⟩
  rw [← hcv] at hc
  have hp : 2 ^ (K + 1) ≤ 2 ^ 62 := Nat.pow_le_pow_right (by omega) (by omega)
  have hv : (FloatKind.f64.decode x).toInt .zero = some (signed s c 0) := by
    show (double.read x).toInt .zero = _
    rw [ex, hcv]
    rfl
  have ha := signed_abs s c 0
  rw [Nat.shiftLeft_zero] at ha
  refine ⟨signed s c 0, ?_, by omega, by omega⟩
  unfold floatToIntVal
  rw [hv]
  simp only
  have mn : IntKind.i64.min = -9223372036854775808 := by decide +kernel
  have mx : IntKind.i64.max = 9223372036854775807 := by decide +kernel
  rw [mn, mx, if_pos (by omega)]

theorem g_1000 : FlG 9 4652007308841189376 := ⟨false, 8796093022208000, -43, by decide +kernel, by decide +kernel, by decide +kernel⟩
theorem g_10000 : FlG 13 4666723172467343360 := ⟨false, 5497558138880000, -39, by decide +kernel, by decide +kernel, by decide +kernel⟩

end Go.Proofs.Ytdodmcmkelegoaa
