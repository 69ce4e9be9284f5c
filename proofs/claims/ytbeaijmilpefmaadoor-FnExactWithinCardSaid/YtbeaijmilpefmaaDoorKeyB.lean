/- A row of numbers as a text: each number's numeral and a blank; two rows with the same text are the same. Plain lists. -/
import Derived.Test.YtbeaijmilpefmaaDoorCore
import Derived.Lib.ItoaNum
namespace Go.Proofs.YtbeaijmilpefmaaDoor

def keyB (zs : List Int) : List UInt8 := zs.flatMap (fun z => Lib.itoa z ++ [32])
theorem keyB_nil : keyB [] = [] := rfl
theorem keyB_cons (z : Int) (zs : List Int) : keyB (z :: zs) = Lib.itoa z ++ 32 :: keyB zs := by simp [keyB]
theorem keyB_snoc (zs : List Int) (z : Int) : keyB (zs ++ [z]) = keyB zs ++ (Lib.itoa z ++ [32]) := by simp [keyB]

def digV (l : List UInt8) : Nat := l.foldl (fun a b => a * 10 + (b.toNat - 48)) 0
theorem digV_snoc (l : List UInt8) (b : UInt8) : digV (l ++ [b]) = digV l * 10 + (b.toNat - 48) := by simp [digV]
theorem digit_nat {d : Nat} (h : d < 10) : (UInt8.ofNat (48 + d)).toNat = 48 + d := by
  rw [UInt8.toNat_ofNat']; omega
theorem dec_all (u : Nat) : digV (Lib.decDigits u) = u ∧ (∀ b ∈ Lib.decDigits u, 48 ≤ b.toNat ∧ b.toNat ≤ 57) := by
  induction u using Nat.strongRecOn with
  | ind u ih =>
    rw [Lib.decDigits]
    by_cases h : u < 10
    · rw [dif_pos h]
      refine ⟨?_, fun b hb => ?_⟩
      · show (0 * 10 + ((UInt8.ofNat (48 + u)).toNat - 48)) = u
        rw [digit_nat h]; omega
      · obtain rfl : b = UInt8.ofNat (48 + u) := by simpa using hb
        rw [digit_nat h]; omega
    · rw [dif_neg h]
      obtain ⟨h1, h2⟩ := ih (u / 10) (by omega)
      have hd : u % 10 < 10 := by omega
      refine ⟨?_, fun b hb => ?_⟩
      · rw [digV_snoc, h1, digit_nat hd]; omega
      · rcases List.mem_append.1 hb with hb | hb
        · exact h2 b hb
        · obtain rfl : b = UInt8.ofNat (48 + u % 10) := by simpa using hb
          rw [digit_nat hd]; omega
theorem itoa_no_blank (z : Int) : ∀ b ∈ Lib.itoa z, b ≠ 32 := by
  intro b hb e
  subst e
  unfold Lib.itoa at hb
  split at hb
  · rcases List.mem_cons.1 hb with h | h
    · exact absurd h (by decide)
    · have := (dec_all z.natAbs).2 32 h
      exact absurd this.1 (by decide)
  · have := (dec_all z.toNat).2 32 hb
    exact absurd this.1 (by decide)
theorem dec_head (u : Nat) (l : List UInt8) : Lib.decDigits u ≠ 45 :: l := fun e => by
  have := (dec_all u).2 45 (by rw [e]; exact List.mem_cons_self)
  exact absurd this.1 (by decide)
theorem itoa_inj {z y : Int} (h : Lib.itoa z = Lib.itoa y) : z = y := by
  unfold Lib.itoa at h
  split at h <;> split at h
  · have e := congrArg digV (List.cons.inj h).2
    rw [(dec_all _).1, (dec_all _).1] at e
    omega
  · exact absurd h.symm (dec_head _ _)
  · exact absurd h (dec_head _ _)
  · have e := congrArg digV h
    rw [(dec_all _).1, (dec_all _).1] at e
    omega
theorem take_blank (l r : List UInt8) (h : ∀ b ∈ l, b ≠ 32) : (l ++ 32 :: r).takeWhile (fun b => b != 32) = l ∧ (l ++ 32 :: r).dropWhile (fun b => b != 32) = 32 :: r := by
  induction l with
  | nil => simp
  | cons a l ih =>
    have ha : (a != 32) = true := by simpa using h a List.mem_cons_self
    obtain ⟨h1, h2⟩ := ih (fun b hb => h b (List.mem_cons_of_mem _ hb))
    rw [List.cons_append, List.takeWhile_cons, List.dropWhile_cons, if_pos ha, if_pos ha, h1, h2]
    exact ⟨rfl, rfl⟩
theorem keyB_inj : ∀ {zs ys : List Int}, keyB zs = keyB ys → zs = ys
  | [], [], _ => rfl
  | [], y :: ys, h => by rw [keyB_nil, keyB_cons] at h; cases hl : Lib.itoa y <;> rw [hl] at h <;> cases h
  | z :: zs, [], h => by rw [keyB_nil, keyB_cons] at h; cases hl : Lib.itoa z <;> rw [hl] at h <;> cases h
  | z :: zs, y :: ys, h => by
    rw [keyB_cons, keyB_cons] at h
    obtain ⟨a1, a2⟩ := take_blank (Lib.itoa z) (keyB zs) (itoa_no_blank z)
    obtain ⟨b1, b2⟩ := take_blank (Lib.itoa y) (keyB ys) (itoa_no_blank y)
    rw [h] at a1 a2
    have e1 := itoa_inj (a1.symm.trans b1)
    have e2 := (List.cons.inj (a2.symm.trans b2)).2
    rw [e1, keyB_inj e2]
end Go.Proofs.YtbeaijmilpefmaaDoor
