/-
  Plain: the text of a model read back.
-/
import Derived.Test.YtgibkjjjnfjbkaaDoorTX2
import Derived.Test.YtgibkjjjnfjbkaaDoorLP2a
namespace Go.Proofs.YtgibkjjjnfjbkaaDoor
set_option linter.unusedVariables false

theorem itS_data {n : Int} (h : 0 ≤ n) : (itS n).data.toList = Lib.decDigits n.toNat := by
  unfold itS Lib.itoa
  rw [if_neg (by omega)]
/-- The digits of a number that is not negative. -/
def dg10 (n : Int) : List UInt8 := Lib.decDigits n.toNat
theorem dg10_dig {n : Int} : ∀ c ∈ dg10 n, dig c = true := dec_dig _ _ (Nat.le_refl _)
theorem dg10_ne {n : Int} (h0 : 0 ≤ n) (h : n < 1000000) : dg10 n ≠ [] := fun e => by
  have := (dec_len 6 n.toNat (by omega) (by omega)).1
  unfold dg10 at e
  rw [e] at this
  simp at this
theorem dg10_rd {n : Int} (h0 : 0 ≤ n) (h : n < 1000000) : rdL (dg10 n) = n := by
  unfold dg10
  rw [rd_dec (by omega)]
  omega
theorem dg10_ao {n : Int} (h0 : 0 ≤ n) (h : n < 1000000) : aoB (dg10 n) = true ∧ aoV (dg10 n) = n := by
  have := atoi_dec (u := n.toNat) (by omega)
  unfold aoB aoV dg10
  rw [this]
  refine ⟨rfl, ?_⟩
  show ((n.toNat : Nat) : Int) = n
  omega
/-- Three numbers with a byte between them. -/
def tri10 (a b c : Int) (s : UInt8) : List UInt8 := dg10 a ++ s :: (dg10 b ++ s :: dg10 c)
theorem tri3_data {a b c : Int} (ha : 0 ≤ a) (hb : 0 ≤ b) (hc : 0 ≤ c) (s : UInt8) : (tri3 a b c ⟨#[s]⟩).data.toList = tri10 a b c s := by
  unfold tri3 tri10 dg10
  simp [ByteArray.data_append, Array.toList_append, itS_data ha, itS_data hb, itS_data hc]
/-- The words of the text: the first line's, then three of each block. -/
def wdH : List UInt8 := [109, 111, 100, 101, 108]
def wdR (ts gs rs : List Int) (k : Nat) : List (List UInt8) := [dg10 (ts.getD k 0), dg10 (gs.getD k 0), dg10 (rs.getD k 0)]
def wdT (x y z : Int) (ts gs rs : List Int) (N : Nat) : List (List UInt8) := wdH :: tri10 x y z 120 :: (List.range N).flatMap (wdR ts gs rs)
/-- A line of numbers, and the whole text, as bytes. -/
def lnR (ts gs rs : List Int) (k : Nat) : List UInt8 := tri10 (ts.getD k 0) (gs.getD k 0) (rs.getD k 0) 32
theorem dg10_sp {n : Int} : ∀ c ∈ dg10 n, Lib.isSp c = false := fun c hc => (dig_nosp (dg10_dig c hc)).1
theorem dg10_no {n : Int} {b : UInt8} (h : b = 32 ∨ b = 10 ∨ b = 120) : b ∉ dg10 n := fun hm => by
  obtain ⟨_, h1, h2, h3, _⟩ := dig_nosp (dg10_dig b hm)
  rcases h with e | e | e
  · exact h1 e
  · exact h2 e
  · exact h3 e
/-- The words of a line of three numbers. -/
theorem flds_row {a b c : Int} (ha : 0 ≤ a ∧ a < 1000000) (hb : 0 ≤ b ∧ b < 1000000) (hc : 0 ≤ c ∧ c < 1000000) (r : List UInt8) : Lib.fieldsGo [] (tri10 a b c 32 ++ 10 :: r) = dg10 a :: dg10 b :: dg10 c :: Lib.fieldsGo [] r := by
  unfold tri10
  rw [List.append_assoc, List.cons_append, flds_go _ _ 32 (by decide) [] (by simpa using dg10_ne ha.1 ha.2) dg10_sp, List.append_assoc, List.cons_append, flds_go _ _ 32 (by decide) [] (by simpa using dg10_ne hb.1 hb.2) dg10_sp, flds_go _ _ 10 (by decide) [] (by simpa using dg10_ne hc.1 hc.2) dg10_sp]
  rfl
theorem tri_nosp {a b c : Int} : ∀ d ∈ tri10 a b c 120, Lib.isSp d = false := fun d hd => by
  unfold tri10 at hd
  rcases List.mem_append.1 hd with h | h
  · exact dg10_sp d h
  · rcases List.mem_cons.1 h with h | h
    · subst h; decide
    · rcases List.mem_append.1 h with h | h
      · exact dg10_sp d h
      · rcases List.mem_cons.1 h with h | h
        · subst h; decide
        · exact dg10_sp d h
theorem flds_head {x y z : Int} (r : List UInt8) : Lib.fieldsGo [] (wdH ++ 32 :: (tri10 x y z 120 ++ 10 :: r)) = wdH :: tri10 x y z 120 :: Lib.fieldsGo [] r := by
  rw [flds_go wdH _ 32 (by decide) [] (by decide) (by decide), flds_go _ _ 10 (by decide) [] (by unfold tri10; simp) tri_nosp]
  rfl
/-- The text's bytes. -/
def txR (ts gs rs : List Int) : Nat → List UInt8
  | 0 => []
  | k + 1 => txR ts gs rs k ++ (lnR ts gs rs k ++ [10])
theorem tx_data {x y z : Int} {ts gs rs : List Int} {N : Nat} (h : MtOk x y z ts gs rs N) : ∀ k, k ≤ N → (mtT x y z ts gs rs k).data.toList = wdH ++ 32 :: (tri10 x y z 120 ++ 10 :: txR ts gs rs k)
  | 0, _ => by
    unfold mtT mtH txR wdH
    simp [ByteArray.data_append, Array.toList_append, tri3_data h.x1 h.y1 h.z1]
  | k + 1, hk => by
    obtain ⟨⟨a1, _⟩, ⟨b1, _⟩, c1, _⟩ := h.row k (by omega)
    unfold mtT mtR
    rw [ByteArray.data_append, Array.toList_append, tx_data h k (by omega), ByteArray.data_append, Array.toList_append, tri3_data a1 b1 c1]
    show _ = wdH ++ 32 :: (tri10 x y z 120 ++ 10 :: (txR ts gs rs k ++ (lnR ts gs rs k ++ [10])))
    unfold lnR
    simp
theorem flds_rows {x y z : Int} {ts gs rs : List Int} {N : Nat} (h : MtOk x y z ts gs rs N) : ∀ k, k ≤ N → ∀ r, Lib.fieldsGo [] (txR ts gs rs k ++ r) = (List.range k).flatMap (wdR ts gs rs) ++ Lib.fieldsGo [] r
  | 0, _, r => rfl
  | k + 1, hk, r => by
    obtain ⟨⟨a1, a2⟩, ⟨b1, b2⟩, c1, c2⟩ := h.row k (by omega)
    show Lib.fieldsGo [] (txR ts gs rs k ++ (lnR ts gs rs k ++ [10]) ++ r) = _
    rw [List.append_assoc, flds_rows h k (by omega), List.append_assoc, List.singleton_append]
    unfold lnR
    rw [flds_row ⟨a1, by omega⟩ ⟨b1, by omega⟩ ⟨c1, by omega⟩, List.range_succ, List.flatMap_append]
    simp [wdR]
theorem tx_words {x y z : Int} {ts gs rs : List Int} {N : Nat} (h : MtOk x y z ts gs rs N) : Lib.fields (mtT x y z ts gs rs N).data.toList = wdT x y z ts gs rs N := by
  unfold Lib.fields wdT
  rw [tx_data h N (Nat.le_refl _), flds_head]
  have := flds_rows h N (Nat.le_refl _) []
  rw [List.append_nil] at this
  rw [this]
  simp [Lib.fieldsGo]
theorem tx_ascii {x y z : Int} {ts gs rs : List Int} {N : Nat} (h : MtOk x y z ts gs rs N) : ∀ b ∈ (mtT x y z ts gs rs N).data.toList, b.toNat < 128 := by
  have hd : ∀ n : Int, ∀ c ∈ dg10 n, c.toNat < 128 := fun n c hc => (dig_nosp (dg10_dig c hc)).2.2.2.2
  have ht : ∀ (a b c : Int) (s : UInt8), s.toNat < 128 → ∀ d ∈ tri10 a b c s, d.toNat < 128 := fun a b c s hs d hm => by
    unfold tri10 at hm
    rcases List.mem_append.1 hm with h | h
    · exact hd _ d h
    · rcases List.mem_cons.1 h with h | h
      · subst h; exact hs
      · rcases List.mem_append.1 h with h | h
        · exact hd _ d h
        · rcases List.mem_cons.1 h with h | h
          · subst h; exact hs
          · exact hd _ d h
  have hr : ∀ k, ∀ b ∈ txR ts gs rs k, b.toNat < 128 := by
    intro k
    induction k with
    | zero => intro b hb; cases hb
    | succ k ih =>
      intro b hb
      rcases List.mem_append.1 hb with h | h
      · exact ih b h
      · rcases List.mem_append.1 h with h | h
        · exact ht _ _ _ 32 (by decide) b h
        · rw [List.mem_singleton.1 h]; decide
  intro b hb
  rw [tx_data h N (Nat.le_refl _)] at hb
  rcases List.mem_append.1 hb with h | h
  · have : ∀ c ∈ wdH, c.toNat < 128 := by decide
    exact this b h
  · rcases List.mem_cons.1 h with h | h
    · subst h; decide
    · rcases List.mem_append.1 h with h | h
      · exact ht _ _ _ 120 (by decide) b h
      · rcases List.mem_cons.1 h with h | h
        · subst h; decide
        · exact hr _ b h
theorem tx_fieldsD {x y z : Int} {ts gs rs : List Int} {N : Nat} (h : MtOk x y z ts gs rs N) : Lib.fieldsD (mtT x y z ts gs rs N).data.toList = wdT x y z ts gs rs N := by
  rw [Lib.fieldsD_ascii _ (tx_ascii h), tx_words h]
end Go.Proofs.YtgibkjjjnfjbkaaDoor
