/- Picks as plain lists; what Play answers, plain; the zero pool. Of no function of the program. -/
import Derived.Test.YtmhldlpjiepmpaaPlE
import Derived.Test.YtmhldlpjiepmpaaPoM
namespace Go.Proofs.Ytmhldlpjiepmpaa
open Go.RowKit

/-- The first k picks of a row of picks. -/
def picksI (zs : List Int) (k : Nat) : List (Int × Int) := (List.range k).map fun i => (geti zs (i * 2), geti zs (i * 2 + 1))
theorem picksI_zero (zs : List Int) : picksI zs 0 = [] := rfl
theorem picksI_succ (zs : List Int) (k : Nat) : picksI zs (k + 1) = picksI zs k ++ [(geti zs (k * 2), geti zs (k * 2 + 1))] := by
  unfold picksI
  rw [List.range_succ, List.map_append, List.map_singleton]
/-- Behind the first k picks. -/
def playK (p : PoolD) (zs : List Int) (k : Nat) : PoolD × Nat := playP p (picksI zs k)
theorem playK_zero (p : PoolD) (zs : List Int) : playK p zs 0 = (p, 0) := rfl
theorem playK_succ (p : PoolD) (zs : List Int) (k : Nat) : playK p zs (k + 1) = (pickP (playK p zs k).1 (geti zs (k * 2)) (geti zs (k * 2 + 1)), (playK p zs k).2 + (mayP (playK p zs k).1 (geti zs (k * 2)) (geti zs (k * 2 + 1))).toNat) := by
  unfold playK
  rw [picksI_succ, playP_snoc]
theorem playK_le (p : PoolD) (zs : List Int) : ∀ k, (playK p zs k).2 ≤ k
  | 0 => Nat.le_refl _
  | k + 1 => by
    rw [playK_succ]
    have := playK_le p zs k
    have h2 : (mayP (playK p zs k).1 (geti zs (k * 2)) (geti zs (k * 2 + 1))).toNat ≤ 1 := Bool.toNat_le _
    show (playK p zs k).2 + _ ≤ k + 1
    omega
theorem playK_inv {p : PoolD} (zs : List Int) (k : Nat) (h : PInv p (-1)) (hsz : ∀ k, (getj p.js k).ks.length ≤ 1048576) : PInv (playK p zs k).1 (-1) ∧ (playK p zs k).1.js = p.js := PInv.play _ h hsz
/-- What Play answers. -/
def playR (p : PoolD) (zs : List Int) (n : Nat) : PoolD × Nat := if poolB p && decide (n ≤ 2000) then playK p zs n else (pool0, 0)
theorem playR_yes {p : PoolD} {zs : List Int} {n : Nat} (h : poolB p = true) (hn : n ≤ 2000) : playR p zs n = playK p zs n := by
  unfold playR
  rw [h, decide_eq_true hn]
  rfl
theorem playR_no {p : PoolD} {zs : List Int} {n : Nat} (h : poolB p = false ∨ ¬ n ≤ 2000) : playR p zs n = (pool0, 0) := by
  unfold playR
  rcases h with h | h
  · rw [h]; rfl
  · rw [decide_eq_false h, Bool.and_false]; rfl
def pv0 : PV := ⟨.slice none 0 0, .slice none 0 0, .slice none 0 0, .slice none 0 0, .slice none 0 0, .slice none 0 0, .slice none 0 0, fun _ => .slice none 0 0, fun _ => .slice none 0 0⟩
theorem PoolO.zero (w : World) (f : Nat → Nat) (B : Nat) : PoolO w f B pv0 pool0 :=
  ⟨⟨.nil _ _ _ _ _ _ _, fun k hk => absurd hk (Nat.not_lt_zero k)⟩, ⟨.nil _ _ _ _ _ _ _, fun k hk => absurd hk (Nat.not_lt_zero k)⟩, .nil _ _ _ _ _ _ _, .nil _ _ _ _ _ _ _, .nil _ _ _ _ _ _ _, .nil _ _ _ _ _ _ _, .nil _ _ _ _ _ _ _⟩
end Go.Proofs.Ytmhldlpjiepmpaa
