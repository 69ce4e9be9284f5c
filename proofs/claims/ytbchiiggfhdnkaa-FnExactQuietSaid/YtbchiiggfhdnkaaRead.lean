/- How programs lie in memory: rows of numbers, of instructions, of threads; what keeps them. For any world. -/
import Derived.Test.YtbchiiggfhdnkaaBase
namespace Go.Proofs.Ytbchiiggfhdnkaa
open Go.RowKit

/-- An instruction's six numbers. -/
structure InsD where
  o : Int
  r : Int
  a : Int
  b : Int
  x : Int
  n : Int

/-- A program: the cells' first numbers, the threads' instructions. -/
structure ProgD where
  init : List Int
  ts : List (List InsD)

def InsD.val (d : InsD) : Value := .agg #[.int .i64 d.o, .int .i64 d.r, .int .i64 d.a, .int .i64 d.b, .int .i64 d.x, .int .i64 d.n]
def ins0 : InsD := ⟨0, 0, 0, 0, 0, 0⟩
/-- A row's elements, by their number. -/
def geti (zs : List Int) (k : Nat) : Int := zs.getD k 0
def getd (l : List InsD) (k : Nat) : InsD := l.getD k ins0
def gett (ts : List (List InsD)) (k : Nat) : List InsD := ts.getD k []

/-- Blocks below B; blocks from lo on and below hi. -/
def Old (B : Nat) (b : Nat) : Prop := b < B
def New (lo hi : Nat) (b : Nat) : Prop := lo ≤ b ∧ b < hi

/-- A row of numbers in a block of S. -/
def IntsAt (w : World) (S : Nat → Prop) (A : Option Addr) (zs : List Int) : Prop :=
  zs.length ≤ 9223372036854775807 ∧ (0 < zs.length → ∃ b off, A = some ⟨b, off, none⟩ ∧ S b ∧ ∀ k, k < zs.length → w.cell? ⟨b, off + k, none⟩ = some (.int .i64 (geti zs k)))

/-- An instruction at an address. -/
def InsIn (w : World) (b off : Nat) (d : InsD) : Prop :=
  w.cell? ⟨b, off, none⟩ = some (.int .i64 d.o) ∧ w.cell? ⟨b, off + 1, none⟩ = some (.int .i64 d.r) ∧ w.cell? ⟨b, off + 2, none⟩ = some (.int .i64 d.a) ∧ w.cell? ⟨b, off + 3, none⟩ = some (.int .i64 d.b) ∧ w.cell? ⟨b, off + 4, none⟩ = some (.int .i64 d.x) ∧ w.cell? ⟨b, off + 5, none⟩ = some (.int .i64 d.n)

/-- A row of instructions in a block of S. -/
def InssAt (w : World) (S : Nat → Prop) (A : Option Addr) (l : List InsD) : Prop :=
  l.length ≤ 9223372036854775807 ∧ (0 < l.length → ∃ b off, A = some ⟨b, off, none⟩ ∧ S b ∧ ∀ k, k < l.length → InsIn w b (off + k * 6) (getd l k))

/-- A row of threads in blocks of S. -/
def ThreadsAt (w : World) (S : Nat → Prop) (A : Option Addr) (ts : List (List InsD)) : Prop :=
  ts.length ≤ 9223372036854775807 ∧ (0 < ts.length → ∃ b off, A = some ⟨b, off, none⟩ ∧ S b ∧ ∀ k, k < ts.length → ∃ A' c', w.cell? ⟨b, off + k, none⟩ = some (.slice A' (gett ts k).length c') ∧ (gett ts k).length ≤ c' ∧ InssAt w S A' (gett ts k))

/-- A program's value: two rows in blocks of S. -/
def ProgAt (w : World) (S : Nat → Prop) (v : Value) (p : ProgD) : Prop :=
  ∃ A c A' c', v = .agg #[.slice A p.init.length c, .slice A' p.ts.length c'] ∧ (p.init.length ≤ c ∧ p.ts.length ≤ c') ∧ IntsAt w S A p.init ∧ ThreadsAt w S A' p.ts

section
variable {w w' : World} {S S' : Nat → Prop} {B : Nat} {A : Option Addr}

theorem IntsAt.keep {zs : List Int} (h : IntsAt w S A zs) (hk : ∀ b o, S b → w'.cell? ⟨b, o, none⟩ = w.cell? ⟨b, o, none⟩) (hS : ∀ b, S b → S' b) : IntsAt w' S' A zs :=
  ⟨h.1, fun hn => by
    obtain ⟨b, off, e, hb, hc⟩ := h.2 hn
    exact ⟨b, off, e, hS b hb, fun k hk' => (hk b _ hb).trans (hc k hk')⟩⟩
theorem InsIn.keep {b off : Nat} {d : InsD} (h : InsIn w b off d) (hk : ∀ o, w'.cell? ⟨b, o, none⟩ = w.cell? ⟨b, o, none⟩) : InsIn w' b off d :=
  ⟨(hk _).trans h.1, (hk _).trans h.2.1, (hk _).trans h.2.2.1, (hk _).trans h.2.2.2.1, (hk _).trans h.2.2.2.2.1, (hk _).trans h.2.2.2.2.2⟩
theorem InssAt.keep {l : List InsD} (h : InssAt w S A l) (hk : ∀ b o, S b → w'.cell? ⟨b, o, none⟩ = w.cell? ⟨b, o, none⟩) (hS : ∀ b, S b → S' b) : InssAt w' S' A l :=
  ⟨h.1, fun hn => by
    obtain ⟨b, off, e, hb, hc⟩ := h.2 hn
    exact ⟨b, off, e, hS b hb, fun k hk' => (hc k hk').keep (fun o => hk b o hb)⟩⟩
theorem ThreadsAt.keep {ts : List (List InsD)} (h : ThreadsAt w S A ts) (hk : ∀ b o, S b → w'.cell? ⟨b, o, none⟩ = w.cell? ⟨b, o, none⟩) (hS : ∀ b, S b → S' b) : ThreadsAt w' S' A ts :=
  ⟨h.1, fun hn => by
    obtain ⟨b, off, e, hb, hc⟩ := h.2 hn
    refine ⟨b, off, e, hS b hb, fun k hk' => ?_⟩
    obtain ⟨A', c', h1, h3, h2⟩ := hc k hk'
    exact ⟨A', c', (hk b _ hb).trans h1, h3, h2.keep hk hS⟩⟩
theorem ProgAt.keep {v : Value} {p : ProgD} (h : ProgAt w S v p) (hk : ∀ b o, S b → w'.cell? ⟨b, o, none⟩ = w.cell? ⟨b, o, none⟩) (hS : ∀ b, S b → S' b) : ProgAt w' S' v p := by
  obtain ⟨A, c, A', c', e, h3, h1, h2⟩ := h
  exact ⟨A, c, A', c', e, h3, h1.keep hk hS, h2.keep hk hS⟩
theorem below_keep (hb : Below B w w') (hS : ∀ b, S b → b < B) : ∀ b o, S b → w'.cell? ⟨b, o, none⟩ = w.cell? ⟨b, o, none⟩ := fun b o h => hb.cell (p := ⟨b, o, none⟩) (hS b h)
theorem IntsAt.below {zs : List Int} (h : IntsAt w S A zs) (hb : Below B w w') (hS : ∀ b, S b → b < B) : IntsAt w' S A zs := h.keep (below_keep hb hS) (fun _ h => h)
theorem InssAt.below {l : List InsD} (h : InssAt w S A l) (hb : Below B w w') (hS : ∀ b, S b → b < B) : InssAt w' S A l := h.keep (below_keep hb hS) (fun _ h => h)
theorem ThreadsAt.below {ts : List (List InsD)} (h : ThreadsAt w S A ts) (hb : Below B w w') (hS : ∀ b, S b → b < B) : ThreadsAt w' S A ts := h.keep (below_keep hb hS) (fun _ h => h)
theorem ProgAt.below {v : Value} {p : ProgD} (h : ProgAt w S v p) (hb : Below B w w') (hS : ∀ b, S b → b < B) : ProgAt w' S v p := h.keep (below_keep hb hS) (fun _ h => h)
theorem IntsAt.more {zs : List Int} (h : IntsAt w S A zs) (hS : ∀ b, S b → S' b) : IntsAt w S' A zs := h.keep (fun _ _ _ => rfl) hS
theorem InssAt.more {l : List InsD} (h : InssAt w S A l) (hS : ∀ b, S b → S' b) : InssAt w S' A l := h.keep (fun _ _ _ => rfl) hS
theorem ThreadsAt.more {ts : List (List InsD)} (h : ThreadsAt w S A ts) (hS : ∀ b, S b → S' b) : ThreadsAt w S' A ts := h.keep (fun _ _ _ => rfl) hS
theorem ProgAt.more {v : Value} {p : ProgD} (h : ProgAt w S v p) (hS : ∀ b, S b → S' b) : ProgAt w S' v p := h.keep (fun _ _ _ => rfl) hS
theorem set_keep {p : Addr} (u : Value) (hS : ¬ S p.block) : ∀ b o, S b → (w.setCell p u).cell? ⟨b, o, none⟩ = w.cell? ⟨b, o, none⟩ :=
  fun b o h => World.cell?_setCell_other w p ⟨b, o, none⟩ u (fun e => hS (by rw [e]; exact h))
theorem IntsAt.set {zs : List Int} (h : IntsAt w S A zs) {p : Addr} (u : Value) (hS : ¬ S p.block) : IntsAt (w.setCell p u) S A zs := h.keep (set_keep u hS) (fun _ h => h)
theorem InssAt.set {l : List InsD} (h : InssAt w S A l) {p : Addr} (u : Value) (hS : ¬ S p.block) : InssAt (w.setCell p u) S A l := h.keep (set_keep u hS) (fun _ h => h)
theorem ThreadsAt.set {ts : List (List InsD)} (h : ThreadsAt w S A ts) {p : Addr} (u : Value) (hS : ¬ S p.block) : ThreadsAt (w.setCell p u) S A ts := h.keep (set_keep u hS) (fun _ h => h)
theorem ProgAt.set {v : Value} {d : ProgD} (h : ProgAt w S v d) {p : Addr} (u : Value) (hS : ¬ S p.block) : ProgAt (w.setCell p u) S v d := h.keep (set_keep u hS) (fun _ h => h)
end

/-- Do all numbers below n meet f? -/
def allB (f : Nat → Bool) (n : Nat) : Bool := (List.range n).all f
theorem allB_yes {f : Nat → Bool} {n : Nat} (h : ∀ k, k < n → f k = true) : allB f n = true := by
  unfold allB; rw [List.all_eq_true]; exact fun k hk => h k (by simpa using hk)
theorem allB_no {f : Nat → Bool} {n k : Nat} (hk : k < n) (h : f k = false) : allB f n = false := by
  unfold allB; rw [List.all_eq_false]; exact ⟨k, by simpa using hk, by simp [h]⟩
theorem allB_at {f : Nat → Bool} {n k : Nat} (h : allB f n = true) (hk : k < n) : f k = true := by
  unfold allB at h; rw [List.all_eq_true] at h; exact h k (by simpa using hk)

/-- How many values the threads hold. -/
def tsSize (ts : List (List InsD)) : Nat := ts.length + (ts.map List.length).sum
def progSize (p : ProgD) : Nat := p.init.length + tsSize p.ts
/-- What is left behind n values; -1 where there is not so much. -/
def szR (left : Int) (n : Nat) : Int := if left < n then -1 else left - n

theorem sum_take (l : List Nat) (k : Nat) (h : k < l.length) : (l.take (k + 1)).sum = (l.take k).sum + l[k] := by
  rw [List.take_succ_eq_append_getElem h, List.sum_append]; simp
theorem sum_take_le (l : List Nat) (k : Nat) : (l.take k).sum ≤ l.sum := by
  conv => rhs; rw [← List.take_append_drop k l, List.sum_append]
  omega
/-- The first k threads' instructions. -/
def insTo (ts : List (List InsD)) (k : Nat) : Nat := ((ts.map List.length).take k).sum
theorem insTo_zero (ts : List (List InsD)) : insTo ts 0 = 0 := by simp [insTo]
theorem insTo_succ (ts : List (List InsD)) (k : Nat) (h : k < ts.length) : insTo ts (k + 1) = insTo ts k + (gett ts k).length := by
  unfold insTo
  rw [sum_take _ k (by simpa using h)]
  simp [gett, List.getD, List.getElem?_eq_getElem h]
theorem insTo_le (ts : List (List InsD)) (k : Nat) : ts.length + insTo ts k ≤ tsSize ts := by
  unfold insTo tsSize; have := sum_take_le (ts.map List.length) k; omega
theorem insTo_all (ts : List (List InsD)) : ts.length + insTo ts ts.length = tsSize ts := by
  unfold insTo tsSize; rw [List.take_of_length_le (by simp)]
end Go.Proofs.Ytbchiiggfhdnkaa
