/- Arguments, opened: rows of numbers, of structs of numbers, of threads. -/
import Derived.WalkKit
import Derived.WalkSpells
import Derived.WalkLawsBesides
import Derived.ProofKit
import Derived.Lib.SmallJoins
import Derived.Deep.Fields
import Derived.Below
import Derived.Carry
import Derived.OpenShut
import Derived.Deep.Slices
import Derived.Test.YtjendjbbhohjcaaRows
namespace Go.Proofs.Ytjendjbbhohjcaa
open Go.RowKit

theorem qa {α : Type} (l : List α) (i : Nat) (a : α) : l.toArray.setIfInBounds i a = (l.set i a).toArray := List.setIfInBounds_toArray l i a
theorem qb {α : Type} (x : α) (xs : List α) (a : α) : (x :: xs).set 0 a = a :: xs := List.set_cons_zero
theorem qc {α : Type} (x : α) (xs : List α) (n : Nat) (a : α) : (x :: xs).set (n + 1) a = x :: xs.set n a := List.set_cons_succ

theorem hide {p : Prop} (h : p) : Hid p := h
theorem below1 (w : World) (o : Obj) : Below w.heap.size w (w.alloc o) := (Below.refl _ _).alloc (Nat.le_refl _) _
theorem below2 (w : World) (o p : Obj) : Below w.heap.size w ((w.alloc o).alloc p) := (below1 w o).alloc (by simp) _
theorem bcell {W w1 : World} (hb : Below W.heap.size W w1) : (∀ b o, b < W.heap.size → w1.cell? ⟨b, o, none⟩ = W.cell? ⟨b, o, none⟩) ∧ (∀ b o, b < W.heap.size → w1.frozen? ⟨b, o, none⟩ = W.frozen? ⟨b, o, none⟩) :=
  ⟨fun b o h => hb.cell (p := ⟨b, o, none⟩) h, fun b o h => hb.frozen (p := ⟨b, o, none⟩) h⟩
theorem below_then {w w1 w2 : World} (h : Below w.heap.size w w1) (k : Below w1.heap.size w1 w2) : Below w.heap.size w w2 := h.trans (k.mono h.size)
theorem below_step {w w1 : World} {o : Obj} (h : Below (w.alloc o).heap.size (w.alloc o) w1) : Below w.heap.size w w1 := below_then (below1 w o) h
theorem size_step {w w1 : World} {o : Obj} (h : Below (w.alloc o).heap.size (w.alloc o) w1) : w.heap.size < w1.heap.size := by have := h.size; simp at this; omega
theorem below_drewN {B : Nat} {a w : World} (h : Below B a w) (n : Nat) : Below B a (w.drewN n) := ⟨h.os, h.tape, h.output, h.size, h.block⟩
theorem ret_bool {a b : Bool} (h : a = b) : Ending.returned (.bool a) = .returned (.bool b) := by rw [h]
theorem ret_int {k : IntKind} {a b : Int} (h : a = b) : Ending.returned (.int k a) = .returned (.int k b) := by rw [h]

end Go.Proofs.Ytjendjbbhohjcaa

namespace Go.Proofs.Ytjendjbbhohjcaa
open Go.RowKit

structure InsD where
  o : Int
  r : Int
  a : Int
  b : Int
  x : Int
  n : Int

structure ProgD where
  init : List Int
  ts : List (List InsD)

def InsD.val (d : InsD) : Value := .agg #[.int .i64 d.o, .int .i64 d.r, .int .i64 d.a, .int .i64 d.b, .int .i64 d.x, .int .i64 d.n]
def ins0 : InsD := ⟨0, 0, 0, 0, 0, 0⟩
def geti (zs : List Int) (k : Nat) : Int := zs.getD k 0
def getd (l : List InsD) (k : Nat) : InsD := l.getD k ins0
def gett (ts : List (List InsD)) (k : Nat) : List InsD := ts.getD k []

def Old (B : Nat) (b : Nat) : Prop := b < B
def New (lo hi : Nat) (b : Nat) : Prop := lo ≤ b ∧ b < hi

def IntsAt (w : World) (S : Nat → Prop) (A : Option Addr) (zs : List Int) : Prop :=
  zs.length ≤ 9223372036854775807 ∧ (0 < zs.length → ∃ b off, A = some ⟨b, off, none⟩ ∧ S b ∧ ∀ k, k < zs.length → w.cell? ⟨b, off + k, none⟩ = some (.int .i64 (geti zs k)))

def InsIn (w : World) (b off : Nat) (d : InsD) : Prop :=
  w.cell? ⟨b, off, none⟩ = some (.int .i64 d.o) ∧ w.cell? ⟨b, off + 1, none⟩ = some (.int .i64 d.r) ∧ w.cell? ⟨b, off + 2, none⟩ = some (.int .i64 d.a) ∧ w.cell? ⟨b, off + 3, none⟩ = some (.int .i64 d.b) ∧ w.cell? ⟨b, off + 4, none⟩ = some (.int .i64 d.x) ∧ w.cell? ⟨b, off + 5, none⟩ = some (.int .i64 d.n)

def InssAt (w : World) (S : Nat → Prop) (A : Option Addr) (l : List InsD) : Prop :=
  l.length ≤ 9223372036854775807 ∧ (0 < l.length → ∃ b off, A = some ⟨b, off, none⟩ ∧ S b ∧ ∀ k, k < l.length → InsIn w b (off + k * 6) (getd l k))

def ThreadsAt (w : World) (S : Nat → Prop) (A : Option Addr) (ts : List (List InsD)) : Prop :=
  ts.length ≤ 9223372036854775807 ∧ (0 < ts.length → ∃ b off, A = some ⟨b, off, none⟩ ∧ S b ∧ ∀ k, k < ts.length → ∃ A' c', w.cell? ⟨b, off + k, none⟩ = some (.slice A' (gett ts k).length c') ∧ (gett ts k).length ≤ c' ∧ InssAt w S A' (gett ts k))

def ProgAt (w : World) (S : Nat → Prop) (v : Value) (p : ProgD) : Prop :=
  ∃ A c A' c', v = .agg #[.slice A p.init.length c, .slice A' p.ts.length c'] ∧ (p.init.length ≤ c ∧ p.ts.length ≤ c') ∧ IntsAt w S A p.init ∧ ThreadsAt w S A' p.ts

section
variable {w w' : World} {S S' : Nat → Prop} {B : Nat} {A : Option Addr}

theorem IntsAt.keep {zs : List Int} (h : IntsAt w S A zs) (hk : ∀ b o, S b → w'.cell? ⟨b, o, none⟩ = w.cell? ⟨b, o, none⟩) (hS : ∀ b, S b → S' b) : IntsAt w' S' A zs :=
  ⟨h.1, fun hn => by
    obtain ⟨b, off, e, hb, hc⟩ := h.2 hn
    exact ⟨b, off, e, hS b hb, fun k hk' => (hk b _ hb).trans (hc k hk')⟩⟩
theorem InsIn.keep {b off : Nat} {d : InsD} (h : InsIn w b off d) (hk : ∀ o, w'.cell? ⟨b, o, none⟩ = w.cell? ⟨b, o, none⟩) : InsIn w' b off d :=
  ⟨(hk _).trans h.1, (hk _).trans h.2.1, (hk _).trans h.2.2.1, (hk _).trans h.2.2.2.1, (hk _).trans h.2.2.2.2.1, (hk _).trans h.2.2.2.2.2⟩
theorem InssAt.keep {l : List InsD} (h : InssAt w S A l) (hk : ∀ b o, S b → w'.cell? ⟨b, o, none⟩ = w.cell? ⟨b, o, none⟩) (hS : ∀ b, S b → S' b) : InssAt w' S' A l :=
  ⟨h.1, fun hn => by
    obtain ⟨b, off, e, hb, hc⟩ := h.2 hn
    exact ⟨b, off, e, hS b hb, fun k hk' => (hc k hk').keep (fun o => hk b o hb)⟩⟩
theorem ThreadsAt.keep {ts : List (List InsD)} (h : ThreadsAt w S A ts) (hk : ∀ b o, S b → w'.cell? ⟨b, o, none⟩ = w.cell? ⟨b, o, none⟩) (hS : ∀ b, S b → S' b) : ThreadsAt w' S' A ts :=
  ⟨h.1, fun hn => by
    obtain ⟨b, off, e, hb, hc⟩ := h.2 hn
    refine ⟨b, off, e, hS b hb, fun k hk' => ?_⟩
    obtain ⟨A', c', h1, h3, h2⟩ := hc k hk'
    exact ⟨A', c', (hk b _ hb).trans h1, h3, h2.keep hk hS⟩⟩
theorem ProgAt.keep {v : Value} {p : ProgD} (h : ProgAt w S v p) (hk : ∀ b o, S b → w'.cell? ⟨b, o, none⟩ = w.cell? ⟨b, o, none⟩) (hS : ∀ b, S b → S' b) : ProgAt w' S' v p := by
  obtain ⟨A, c, A', c', e, h3, h1, h2⟩ := h
  exact ⟨A, c, A', c', e, h3, h1.keep hk hS, h2.keep hk hS⟩
theorem below_keep (hb : Below B w w') (hS : ∀ b, S b → b < B) : ∀ b o, S b → w'.cell? ⟨b, o, none⟩ = w.cell? ⟨b, o, none⟩ := fun b o h => hb.cell (p := ⟨b, o, none⟩) (hS b h)
theorem IntsAt.below {zs : List Int} (h : IntsAt w S A zs) (hb : Below B w w') (hS : ∀ b, S b → b < B) : IntsAt w' S A zs := h.keep (below_keep hb hS) (fun _ h => h)
theorem InssAt.below {l : List InsD} (h : InssAt w S A l) (hb : Below B w w') (hS : ∀ b, S b → b < B) : InssAt w' S A l := h.keep (below_keep hb hS) (fun _ h => h)
theorem ThreadsAt.below {ts : List (List InsD)} (h : ThreadsAt w S A ts) (hb : Below B w w') (hS : ∀ b, S b → b < B) : ThreadsAt w' S A ts := h.keep (below_keep hb hS) (fun _ h => h)
theorem ProgAt.below {v : Value} {p : ProgD} (h : ProgAt w S v p) (hb : Below B w w') (hS : ∀ b, S b → b < B) : ProgAt w' S v p := h.keep (below_keep hb hS) (fun _ h => h)
theorem IntsAt.more {zs : List Int} (h : IntsAt w S A zs) (hS : ∀ b, S b → S' b) : IntsAt w S' A zs := h.keep (fun _ _ _ => rfl) hS
theorem InssAt.more {l : List InsD} (h : InssAt w S A l) (hS : ∀ b, S b → S' b) : InssAt w S' A l := h.keep (fun _ _ _ => rfl) hS
theorem ThreadsAt.more {ts : List (List InsD)} (h : ThreadsAt w S A ts) (hS : ∀ b, S b → S' b) : ThreadsAt w S' A ts := h.keep (fun _ _ _ => rfl) hS
theorem ProgAt.more {v : Value} {p : ProgD} (h : ProgAt w S v p) (hS : ∀ b, S b → S' b) : ProgAt w S' v p := h.keep (fun _ _ _ => rfl) hS
theorem set_keep {p : Addr} (u : Value) (hS : ¬ S p.block) : ∀ b o, S b → (w.setCell p u).cell? ⟨b, o, none⟩ = w.cell? ⟨b, o, none⟩ :=
  fun b o h => World.cell?_setCell_other w p ⟨b, o, none⟩ u (fun e => hS (by rw [e]; exact h))
theorem IntsAt.set {zs : List Int} (h : IntsAt w S A zs) {p : Addr} (u : Value) (hS : ¬ S p.block) : IntsAt (w.setCell p u) S A zs := h.keep (set_keep u hS) (fun _ h => h)
theorem InssAt.set {l : List InsD} (h : InssAt w S A l) {p : Addr} (u : Value) (hS : ¬ S p.block) : InssAt (w.setCell p u) S A l := h.keep (set_keep u hS) (fun _ h => h)
theorem ThreadsAt.set {ts : List (List InsD)} (h : ThreadsAt w S A ts) {p : Addr} (u : Value) (hS : ¬ S p.block) : ThreadsAt (w.setCell p u) S A ts := h.keep (set_keep u hS) (fun _ h => h)
theorem ProgAt.set {v : Value} {d : ProgD} (h : ProgAt w S v d) {p : Addr} (u : Value) (hS : ¬ S p.block) : ProgAt (w.setCell p u) S v d := h.keep (set_keep u hS) (fun _ h => h)
end

def allB (f : Nat → Bool) (n : Nat) : Bool := (List.range n).all f
theorem allB_yes {f : Nat → Bool} {n : Nat} (h : ∀ k, k < n → f k = true) : allB f n = true := by
  unfold allB; rw [List.all_eq_true]; exact fun k hk => h k (by simpa using hk)
theorem allB_no {f : Nat → Bool} {n k : Nat} (hk : k < n) (h : f k = false) : allB f n = false := by
  unfold allB; rw [List.all_eq_false]; exact ⟨k, by simpa using hk, by simp [h]⟩
theorem allB_at {f : Nat → Bool} {n k : Nat} (h : allB f n = true) (hk : k < n) : f k = true := by
  unfold allB at h; rw [List.all_eq_true] at h; exact h k (by simpa using hk)

def tsSize (ts : List (List InsD)) : Nat := ts.length + (ts.map List.length).sum
def progSize (p : ProgD) : Nat := p.init.length + tsSize p.ts
def szR (left : Int) (n : Nat) : Int := if left < n then -1 else left - n

theorem sum_take (l : List Nat) (k : Nat) (h : k < l.length) : (l.take (k + 1)).sum = (l.take k).sum + l[k] := by
  rw [List.take_succ_eq_append_getElem h, List.sum_append]; simp
theorem sum_take_le (l : List Nat) (k : Nat) : (l.take k).sum ≤ l.sum := by
  conv => rhs; rw [← List.take_append_drop k l, List.sum_append]
  omega
def insTo (ts : List (List InsD)) (k : Nat) : Nat := ((ts.map List.length).take k).sum
theorem insTo_zero (ts : List (List InsD)) : insTo ts 0 = 0 := by simp [insTo]
theorem insTo_succ (ts : List (List InsD)) (k : Nat) (h : k < ts.length) : insTo ts (k + 1) = insTo ts k + (gett ts k).length := by
  unfold insTo
  rw [sum_take _ k (by simpa using h)]
  simp [gett, List.getD, List.getElem?_eq_getElem h]
theorem insTo_le (ts : List (List InsD)) (k : Nat) : ts.length + insTo ts k ≤ tsSize ts := by
  unfold insTo tsSize; have := sum_take_le (ts.map List.length) k; omega
theorem insTo_all (ts : List (List InsD)) : ts.length + insTo ts ts.length = tsSize ts := by
  unfold insTo tsSize; rw [List.take_of_length_le (by simp)]
end Go.Proofs.Ytjendjbbhohjcaa

namespace Go.Proofs.Ytjendjbbhohjcaa
open Go.RowKit

def Blk (w : World) (g : Nat) (t : TypeId) (cs : Array Value) : Prop := w.heap[g]? = some (.cells cs t (0, 0))

section
variable {w w' : World} {g : Nat} {t : TypeId} {cs : Array Value}
theorem Blk.lt (h : Blk w g t cs) : g < w.heap.size := by
  rcases Nat.lt_or_ge g w.heap.size with hlt | hge
  · exact hlt
  · unfold Blk at h; rw [Array.getElem?_eq_none hge] at h; cases h
theorem Blk.cell (h : Blk w g t cs) (i : Nat) : w.cell? ⟨g, i, none⟩ = cs[i]? := cell_of_row w g i cs t (0, 0) h
theorem Blk.frozen (h : Blk w g t cs) (i : Nat) : w.frozen? ⟨g, i, none⟩ = false := by
  unfold Blk at h
  simp [World.frozen?, h]
theorem Blk.new (w : World) (t : TypeId) (cs : Array Value) : Blk (w.alloc (.cells cs t)) w.heap.size t cs := heap_alloc_new w _
theorem Blk.set_ (h : Blk w g t cs) (i : Nat) (u : Value) : Blk (w.setCell ⟨g, i, none⟩ u) g t (cs.setIfInBounds i u) := by
  unfold Blk at h ⊢
  simp [World.setCell, Array.getElem?_modify, h]
theorem Blk.alloc (h : Blk w g t cs) (o : Obj) : Blk (w.alloc o) g t cs := (Below.heap_alloc w o g h.lt).trans h
theorem Blk.far (h : Blk w g t cs) {p : Addr} (hp : g ≠ p.block) (u : Value) : Blk (w.setCell p u) g t cs := (Below.heap_setCell w p u g hp).trans h
theorem Blk.below {B : Nat} (h : Blk w g t cs) (hb : Below B w w') (hg : g < B) : Blk w' g t cs := (hb.block g hg).trans h
end

def zrow (z : Array Value) (n : Nat) : Array Value := madeCells z n
theorem zrow_size (z : Array Value) (n : Nat) : (zrow z n).size = n := by simp [zrow, madeCells]
theorem zrow_size1 (z : Value) (n : Nat) : (zrow #[z] n).size = n := by simp [zrow, madeCells]
def InsCells (cs : Array Value) (off : Nat) (d : InsD) : Prop :=
  cs[off]? = some (.int .i64 d.o) ∧ cs[off + 1]? = some (.int .i64 d.r) ∧ cs[off + 2]? = some (.int .i64 d.a) ∧ cs[off + 3]? = some (.int .i64 d.b) ∧ cs[off + 4]? = some (.int .i64 d.x) ∧ cs[off + 5]? = some (.int .i64 d.n)
theorem Blk.insIn {w : World} {g off : Nat} {t : TypeId} {cs : Array Value} {d : InsD} (h : Blk w g t cs) (hc : InsCells cs off d) : InsIn w g off d :=
  ⟨(h.cell _).trans hc.1, (h.cell _).trans hc.2.1, (h.cell _).trans hc.2.2.1, (h.cell _).trans hc.2.2.2.1, (h.cell _).trans hc.2.2.2.2.1, (h.cell _).trans hc.2.2.2.2.2⟩
def set6 (cs : Array Value) (off : Nat) (d : InsD) : Array Value :=
  (((((cs.setIfInBounds off (.int .i64 d.o)).setIfInBounds (off + 1) (.int .i64 d.r)).setIfInBounds (off + 2) (.int .i64 d.a)).setIfInBounds (off + 3) (.int .i64 d.b)).setIfInBounds (off + 4) (.int .i64 d.x)).setIfInBounds (off + 5) (.int .i64 d.n)
theorem set6_size (cs : Array Value) (off : Nat) (d : InsD) : (set6 cs off d).size = cs.size := by simp [set6]
theorem set6_far (cs : Array Value) (off : Nat) (d : InsD) (j : Nat) (h : j < off ∨ off + 5 < j) : (set6 cs off d)[j]? = cs[j]? := by
  unfold set6
  simp only [Array.getElem?_setIfInBounds]
  rw [if_neg (by omega), if_neg (by omega), if_neg (by omega), if_neg (by omega), if_neg (by omega), if_neg (by omega)]
theorem InsCells.at_ (cs : Array Value) (off : Nat) (d : InsD) (h : off + 5 < cs.size) : InsCells (set6 cs off d) off d := by
  unfold InsCells set6
  simp only [Array.getElem?_setIfInBounds, Array.size_setIfInBounds]
  refine ⟨?_, ?_, ?_, ?_, ?_, ?_⟩
  · rw [if_neg (by omega), if_neg (by omega), if_neg (by omega), if_neg (by omega), if_neg (by omega), if_pos trivial, if_pos (by omega)]
  · rw [if_neg (by omega), if_neg (by omega), if_neg (by omega), if_neg (by omega), if_pos trivial, if_pos (by omega)]
  · rw [if_neg (by omega), if_neg (by omega), if_neg (by omega), if_pos trivial, if_pos (by omega)]
  · rw [if_neg (by omega), if_neg (by omega), if_pos trivial, if_pos (by omega)]
  · rw [if_neg (by omega), if_pos trivial, if_pos (by omega)]
  · rw [if_pos trivial, if_pos (by omega)]
theorem InsCells.far {cs : Array Value} {off off' : Nat} {d e : InsD} (hc : InsCells cs off' e) (h : off' + 5 < off ∨ off + 5 < off') : InsCells (set6 cs off d) off' e :=
  ⟨(set6_far _ _ _ _ (by omega)).trans hc.1, (set6_far _ _ _ _ (by omega)).trans hc.2.1, (set6_far _ _ _ _ (by omega)).trans hc.2.2.1, (set6_far _ _ _ _ (by omega)).trans hc.2.2.2.1, (set6_far _ _ _ _ (by omega)).trans hc.2.2.2.2.1, (set6_far _ _ _ _ (by omega)).trans hc.2.2.2.2.2⟩
def put6 (w : World) (g off : Nat) (d : InsD) : World :=
  (((((w.setCell ⟨g, off, none⟩ (.int .i64 d.o)).setCell ⟨g, off + 1, none⟩ (.int .i64 d.r)).setCell ⟨g, off + 2, none⟩ (.int .i64 d.a)).setCell ⟨g, off + 3, none⟩ (.int .i64 d.b)).setCell ⟨g, off + 4, none⟩ (.int .i64 d.x)).setCell ⟨g, off + 5, none⟩ (.int .i64 d.n)
theorem Blk.put6 {w : World} {g : Nat} {t : TypeId} {cs : Array Value} (h : Blk w g t cs) (off : Nat) (d : InsD) : Blk (put6 w g off d) g t (set6 cs off d) :=
  (((((h.set_ _ _).set_ _ _).set_ _ _).set_ _ _).set_ _ _).set_ _ _
theorem below_put6 {B : Nat} {a w : World} (h : Below B a w) {g : Nat} (hg : B ≤ g) (off : Nat) (d : InsD) : Below B a (put6 w g off d) :=
  (((((h.setCell hg _).setCell hg _).setCell hg _).setCell hg _).setCell hg _).setCell hg _
end Go.Proofs.Ytjendjbbhohjcaa

namespace Go.Proofs.Ytjendjbbhohjcaa
def uR (o : Int) : Bool := o == 1 || o == 2 || o == 3 || o == 4 || o == 5 || o == 6 || o == 7 || o == 9 || o == 11
def uA (o : Int) : Bool := o == 2 || o == 3 || o == 4 || o == 5 || o == 6 || o == 8 || o == 9 || o == 10 || o == 11 || o == 13
def uB (o : Int) : Bool := o == 3 || o == 4 || o == 5 || o == 6 || o == 10 || o == 11
def uX (o : Int) : Bool := o == 7 || o == 8 || o == 9 || o == 10 || o == 11
def uN (o : Int) : Bool := o == 1 || o == 9 || o == 10 || o == 13 || o == 14
def touchN (o : Int) : Int := if o = 7 ∨ o = 9 then 1 else if o = 8 ∨ o = 10 then 2 else if o = 11 then 3 else 0
def countN (o n : Int) : Int := if o = 7 ∨ o = 8 ∨ o = 11 then 1 else if o = 9 ∨ o = 10 then n else 0
def knownB (o : Int) : Bool := decide (1 ≤ o ∧ o ≤ 14)
def zeroB (o r a b x n : Int) : Bool := (r == 0 || uR o) && (a == 0 || uA o) && (b == 0 || uB o) && (x == 0 || uX o) && (n == 0 || uN o)
def regB (r : Int) : Bool := decide (0 ≤ r ∧ r ≤ 5)
def regsB (r a b : Int) : Bool := regB r && regB a && regB b
def cellsB (o x n cells : Int) : Bool := decide (touchN o = 0 ∨ (1 ≤ countN o n ∧ countN o n ≤ cells ∧ 0 ≤ x ∧ x ≤ cells - countN o n))
def jumpB (o n i m : Int) : Bool := decide ((o = 13 ∨ o = 14) → (i < n ∧ n ≤ m))
def insB (o r a b x n i cells m : Int) : Bool := knownB o && zeroB o r a b x n && regsB r a b && cellsB o x n cells && jumpB o n i m
theorem u_other (o : Int) (h1 : (o == 1) = false) (h2 : (o == 2) = false) (h3 : (o == 3) = false) (h4 : (o == 4) = false) (h5 : (o == 5) = false) (h6 : (o == 6) = false) (h7 : (o == 7) = false) (h8 : (o == 8) = false) (h9 : (o == 9) = false) (h10 : (o == 10) = false) (h11 : (o == 11) = false) (h13 : (o == 13) = false) (h14 : (o == 14) = false) :
    uR o = false ∧ uA o = false ∧ uB o = false ∧ uX o = false ∧ uN o = false := by
  simp [uR, uA, uB, uX, uN, h1, h2, h3, h4, h5, h6, h7, h8, h9, h10, h11, h13, h14]
theorem touch_pos (o : Int) : 0 ≤ touchN o ∧ touchN o ≤ 3 := by unfold touchN; repeat' split <;> try omega
end Go.Proofs.Ytjendjbbhohjcaa

namespace Go.Proofs.Ytjendjbbhohjcaa
open Go.Joins Go.ChangeShapes Go.WideShapes Go.RowKit Go.Deep
section
variable {H : Type} {enc : TypeId × Value → H} {P : Program} {w : World} {base : Nat} {spare : Nat → Bool} {held : Bool}
theorem open_agg6 {r : Reach} {b0 : Nat} {t : TypeId} {f0 f1 f2 f3 f4 f5 : Field} {v : Value} {d : DataW H} {p : List MemPlace} (hs : P.underlying t = some (.struct #[f0, f1, f2, f3, f4, f5])) (hone : oneCellFields P #[f0, f1, f2, f3, f4, f5] = true) (hC : P.cellsOf t = 6)
    (hv : Value.okWide P w r b0 t v) (h : DataW.Trod enc P w base spare held t v d p) :
    ∃ (v0 v1 v2 v3 v4 v5 : Value) (y0 y1 y2 y3 y4 y5 : DataW H × List MemPlace) (n : Nat), v = .agg #[v0, v1, v2, v3, v4, v5] ∧ d = .agg [y0.1, y1.1, y2.1, y3.1, y4.1, y5.1] ∧ p = y0.2 ++ (y1.2 ++ (y2.2 ++ (y3.2 ++ (y4.2 ++ y5.2)))) ∧
      DataW.trod enc P w base spare held n f0.type [v0] = some y0 ∧ DataW.trod enc P w base spare held n f1.type [v1] = some y1 ∧ DataW.trod enc P w base spare held n f2.type [v2] = some y2 ∧ DataW.trod enc P w base spare held n f3.type [v3] = some y3 ∧ DataW.trod enc P w base spare held n f4.type [v4] = some y4 ∧ DataW.trod enc P w base spare held n f5.type [v5] = some y5 := by
  obtain ⟨cs, rfl, hsz⟩ := okWide_struct hs hv
  obtain ⟨l⟩ := cs
  match l, hsz.trans hC with
  | [c0, c1, c2, c3, c4, c5], _ =>
    obtain ⟨fuel, hf⟩ := h
    obtain ⟨xs, n, _, hx, _, hlen, hg⟩ := DataW.trod_struct hs hf
    obtain ⟨o0, k0⟩ := hone_of hone 0 f0 rfl
    obtain ⟨o1, k1⟩ := hone_of hone 1 f1 rfl
    obtain ⟨o2, k2⟩ := hone_of hone 2 f2 rfl
    obtain ⟨o3, k3⟩ := hone_of hone 3 f3 rfl
    obtain ⟨o4, k4⟩ := hone_of hone 4 f4 rfl
    obtain ⟨o5, k5⟩ := hone_of hone 5 f5 rfl
    match xs, hlen with
    | [y0, y1, y2, y3, y4, y5], _ =>
      simp only [Prod.mk.injEq] at hx
      exact ⟨c0, c1, c2, c3, c4, c5, y0, y1, y2, y3, y4, y5, n, rfl, by simpa using hx.1, by simpa using hx.2, by simpa [Value.cells, o0, k0] using hg 0 f0 rfl, by simpa [Value.cells, o1, k1] using hg 1 f1 rfl, by simpa [Value.cells, o2, k2] using hg 2 f2 rfl, by simpa [Value.cells, o3, k3] using hg 3 f3 rfl, by simpa [Value.cells, o4, k4] using hg 4 f4 rfl, by simpa [Value.cells, o5, k5] using hg 5 f5 rfl⟩
end
end Go.Proofs.Ytjendjbbhohjcaa

namespace Go.Proofs.Ytjendjbbhohjcaa
open Go.RowKit Go.ChangeShapes Go.WideShapes Go.ChangeAt

section
variable {H : Type} {enc : TypeId × Value → H} {P : Program}

theorem all_stay (hl : laidOutB P = true) {W W' : World} (hb : Below W.heap.size W W') {sp : Nat → Bool} :
    ∀ (ts : List TypeId) (vs : List Value) (ds : List (DataW H)) (ps : List MemPlace), (∀ t ∈ ts, P.readableRec t = true ∧ t < P.types.size) →
      DataW.TrodAll enc P W 0 (fun _ => true) true ts vs ds ps → (∀ x ∈ ps, x.block < W.heap.size) → (∀ x ∈ ps, sp x.block = true) → DataW.TrodAll enc P W' 0 sp true ts vs ds ps
  | [], [], [], _, _, h, _, _ => h
  | t :: ts, v :: vs, d :: ds, ps, hr, h, hlt, hsp => by
    obtain ⟨p, q, h1, h2, rfl⟩ := h
    have ht := hr t (by simp)
    exact ⟨p, q, WideElems.Trod_stays hl ht.1 ht.2 h1 (fun x hx => hb.same (hlt x (by simp [hx]))) (fun x hx => hsp x (by simp [hx])),
      all_stay hl hb ts vs ds q (fun u hu => hr u (by simp [hu])) h2 (fun x hx => hlt x (by simp [hx])) (fun x hx => hsp x (by simp [hx])), rfl⟩
  | [], _ :: _, _, _, _, h, _, _ => h.elim
  | [], [], _ :: _, _, _, h, _, _ => h.elim
  | _ :: _, [], _, _, _, h, _, _ => h.elim
  | _ :: _, _ :: _, [], _, _, h, _, _ => h.elim

theorem law_post {f : Func} {s : ChangeSpec} {W W' : World} {args : Array Value} {ds gs : List (DataW H)} {before : List MemPlace} {tb : TypeId}
    (hl : laidOutB P = true) (hr : ∀ t ∈ f.params.toList, P.readableRec t = true ∧ t < P.types.size) (hv : s.vars = []) (hres : f.resultTypes = #[tb]) (htb : P.underlying tb = some .bool)
    (hs : ∀ ds : List (DataW H), ds.length = f.params.toList.length → (s.fn H ds).results = [.lit (.bool true)] ∧ (s.fn H ds).args = ds ∧ (s.fn H ds).vars = [])
    (hW : DataW.Whole enc P f.params.toList s.vars false W args.toList ds gs before) (hb : Below W.heap.size W W') :
    s.post enc P f false true false false W args (.bool true) W' := by
  have hW' := hW
  have hlt : ∀ x ∈ before, x.block < W.heap.size := fun x hx => hW.lt x hx
  obtain ⟨p, q, hA, hV, rfl, hfz, hnd⟩ := hW
  rw [hv] at hV
  obtain ⟨rfl, rfl⟩ := trodVars_none hV
  have hlen : ds.length = f.params.toList.length := by
    clear hs hW' hb hlt hV hfz hnd hr hv
    generalize f.params.toList = ts at hA
    generalize args.toList = vs at hA
    induction ts generalizing vs ds p with
    | nil =>
      match vs, ds, hA with
      | [], [], _ => rfl
    | cons t ts ih =>
      match vs, ds, hA with
      | v :: vs, d :: ds, ⟨_, _, _, h2, _⟩ => simp only [List.length_cons]; rw [ih _ _ h2]
  obtain ⟨e1, e2, e3⟩ := hs (ds ++ []) (by simpa using hlen)
  simp only [List.append_nil] at e1 e2 e3 hlt hW'
  have hst := all_stay (enc := enc) hl hb (sp := fun b => decide (b < W.heap.size)) _ _ _ _ hr hA hlt (fun x hx => by simpa using hlt x hx)
  refine ⟨ds, [], p, [], p, [], hW', ?_, ?_, ?_, hb.frame _, fun h => by cases h⟩
  · simp only [List.append_nil]
    rw [e1, hres]
    exact trodAll_mk1 (shut_bool htb _)
  · simp only [List.append_nil]
    rw [e2]
    exact hst
  · simp only [List.append_nil]
    rw [e3, hv]
    rfl
end

def Apart (u v : Value) : Prop := ∀ b, u.ownBlock = some b → v.ownBlock ≠ some b
theorem Apart.symm {u v : Value} (h : Apart u v) : Apart v u := fun b hv hu => h b hu hv
end Go.Proofs.Ytjendjbbhohjcaa

namespace Go.Proofs.Ytjendjbbhohjcaa
open Go.RowKit Go.Joins Go.ChangeShapes Go.WideShapes Go.Deep

theorem choose_list {α : Type} (d : α) (n : Nat) (R : Nat → α → Prop) (h : ∀ i, i < n → ∃ x, R i x) : ∃ l : List α, l.length = n ∧ ∀ i, i < n → R i (l.getD i d) := by
  induction n with
  | zero => exact ⟨[], rfl, fun i hi => by omega⟩
  | succ n ih =>
    obtain ⟨l, hl, hr⟩ := ih (fun i hi => h i (by omega))
    obtain ⟨x, hx⟩ := h n (by omega)
    refine ⟨l ++ [x], by simp [hl], fun i hi => ?_⟩
    by_cases e : i < n
    · have := hr i e
      rwa [List.getD_eq_getElem?_getD, List.getElem?_append_left (by omega), ← List.getD_eq_getElem?_getD]
    · obtain rfl : i = n := by omega
      rw [List.getD_eq_getElem?_getD, List.getElem?_append_right (by omega), hl]
      simpa using hx

theorem cell_lt {w : World} {a : Addr} {v : Value} (h : w.cell? a = some v) : a.block < w.heap.size := by
  rcases Nat.lt_or_ge a.block w.heap.size with hlt | hge
  · exact hlt
  · unfold World.cell? at h; rw [Array.getElem?_eq_none hge] at h; cases h

section
variable {H : Type} {enc : TypeId × Value → H} {P : Program} {w : World} {spare : Nat → Bool} {held : Bool}

theorem trod_ints {t e : TypeId} {fuel : Nat} {v : Value} {x : DataW H × List MemPlace} (ht : P.underlying t = some (.slice e)) (he : P.underlying e = some (.int .i64)) (hc : P.cellsOf e = 1)
    (h : DataW.trod enc P w 0 spare held fuel t [v] = some x) : ∃ A zs c, v = .slice A (zs : List Int).length c ∧ zs.length ≤ c ∧ IntsAt w (Old w.heap.size) A zs := by
  rcases open_ints ht he hc h with ⟨hcs, _⟩ | ⟨a, len, cap, zs, hcs, _, hl, hm, hz, _, hcell, _⟩
  · simp only [List.cons.injEq, and_true] at hcs
    exact ⟨none, [], 0, hcs, by simp, by simp, fun h => absurd h (by simp)⟩
  · simp only [List.cons.injEq, and_true] at hcs
    have hlen : len ≤ zs.length := by rw [hz]; split <;> omega
    have htl : (zs.take len).length = len := by rw [List.length_take]; omega
    unfold maxLen at hm
    refine ⟨some a, zs.take len, cap, by rw [htl]; exact hcs, by omega, by omega, fun hp => ?_⟩
    rw [htl] at hp ⊢
    obtain ⟨b, off, rfl, hat⟩ := ints_at hcell (by omega)
    refine ⟨b, off, rfl, cell_lt (hat 0 (by omega)), fun k hk => ?_⟩
    rw [hat k (by omega)]
    unfold geti
    rw [List.getD_eq_getElem?_getD, List.getD_eq_getElem?_getD, List.getElem?_take_of_lt hk]

theorem add_plain' (b off k : Nat) : (⟨b, off, none⟩ : Addr).add k = ⟨b, off + k, none⟩ := by
  unfold Addr.add; split
  · subst_vars; rfl
  · rfl
theorem spot_none {a : Addr} {v : Value} (h : w.cell? a = some v) : ∃ b off, a = ⟨b, off, none⟩ := by
  obtain ⟨b, off, spot⟩ := a
  have := World.cell?_spot h
  simp at this
  subst this
  exact ⟨b, off, rfl⟩

theorem trod_inss {t e ti : TypeId} {f0 f1 f2 f3 f4 f5 : Field} {fuel : Nat} {v : Value} {x : DataW H × List MemPlace} (ht : P.underlying t = some (.slice e)) (he : P.underlying e = some (.struct #[f0, f1, f2, f3, f4, f5])) (hone : oneCellFields P #[f0, f1, f2, f3, f4, f5] = true) (hC : P.cellsOf e = 6)
    (hf : f0.type = ti ∧ f1.type = ti ∧ f2.type = ti ∧ f3.type = ti ∧ f4.type = ti ∧ f5.type = ti) (hti : P.underlying ti = some (.int .i64))
    (h : DataW.trod enc P w 0 spare held fuel t [v] = some x) : ∃ A l c, v = .slice A (l : List InsD).length c ∧ l.length ≤ c ∧ InssAt w (Old w.heap.size) A l := by
  rcases open_slice ht h with ⟨hcs, _⟩ | ⟨a, len, cap, m, n, D, Pl, hcs, _, hl, hm, hmm, _, hi⟩
  · simp only [List.cons.injEq, and_true] at hcs
    exact ⟨none, [], 0, hcs, by simp, by simp, fun h => absurd h (by simp)⟩
  · simp only [List.cons.injEq, and_true] at hcs
    have hlm : len ≤ m := by rw [hmm]; split <;> omega
    unfold maxLen at hm
    have each : ∀ i, i < len → ∃ d : InsD, ∀ j v, [Value.int .i64 d.o, .int .i64 d.r, .int .i64 d.a, .int .i64 d.b, .int .i64 d.x, .int .i64 d.n][j]? = some v → w.cell? ((a.add (i * 6)).add j) = some v := by
      intro i hil
      obtain ⟨cs', hc, ht'⟩ := hi i (by omega)
      rw [hC] at hc
      obtain ⟨_, hcl, hat⟩ := World.cells?_some hc
      obtain ⟨ys, n', _, _, _, hyl, hfs⟩ := DataW.trod_struct he ht'
      match cs', hcl with
      | [c0, c1, c2, c3, c4, c5], _ =>
        obtain ⟨o0, k0⟩ := hone_of hone 0 f0 rfl
        obtain ⟨o1, k1⟩ := hone_of hone 1 f1 rfl
        obtain ⟨o2, k2⟩ := hone_of hone 2 f2 rfl
        obtain ⟨o3, k3⟩ := hone_of hone 3 f3 rfl
        obtain ⟨o4, k4⟩ := hone_of hone 4 f4 rfl
        obtain ⟨o5, k5⟩ := hone_of hone 5 f5 rfl
        match ys, hyl with
        | [y0, y1, y2, y3, y4, y5], _ =>
          have g0 := hfs 0 f0 rfl; rw [o0, k0, hf.1] at g0
          have g1 := hfs 1 f1 rfl; rw [o1, k1, hf.2.1] at g1
          have g2 := hfs 2 f2 rfl; rw [o2, k2, hf.2.2.1] at g2
          have g3 := hfs 3 f3 rfl; rw [o3, k3, hf.2.2.2.1] at g3
          have g4 := hfs 4 f4 rfl; rw [o4, k4, hf.2.2.2.2.1] at g4
          have g5 := hfs 5 f5 rfl; rw [o5, k5, hf.2.2.2.2.2] at g5
          obtain ⟨a0, t0, _, _⟩ := DataW.trod_int hti (x := y0) (by simpa using g0)
          obtain ⟨a1, t1, _, _⟩ := DataW.trod_int hti (x := y1) (by simpa using g1)
          obtain ⟨a2, t2, _, _⟩ := DataW.trod_int hti (x := y2) (by simpa using g2)
          obtain ⟨a3, t3, _, _⟩ := DataW.trod_int hti (x := y3) (by simpa using g3)
          obtain ⟨a4, t4, _, _⟩ := DataW.trod_int hti (x := y4) (by simpa using g4)
          obtain ⟨a5, t5, _, _⟩ := DataW.trod_int hti (x := y5) (by simpa using g5)
          simp only [List.cons.injEq, and_true] at t0 t1 t2 t3 t4 t5
          subst t0 t1 t2 t3 t4 t5
          refine ⟨⟨a0, a1, a2, a3, a4, a5⟩, fun j v hj => ?_⟩
          have hj6 : j < 6 := by
            have := (List.getElem?_eq_some_iff.1 hj).1
            simpa using this
          rw [hat j hj6]
          exact hj
    obtain ⟨l, hll, hlr⟩ := choose_list ins0 len _ each
    refine ⟨some a, l, cap, by rw [hll]; exact hcs, by omega, by omega, fun hp => ?_⟩
    rw [hll] at hp ⊢
    obtain ⟨b, off, rfl⟩ : ∃ b off, a = ⟨b, off, none⟩ := by
      have := hlr 0 hp 0 _ rfl
      simp only [Nat.zero_mul] at this
      exact spot_none (v := _) (by simpa [Addr.add] using this)
    have h0 := hlr 0 hp 0 _ rfl
    refine ⟨b, off, rfl, ?_, fun k hk => ?_⟩
    · have := cell_lt h0
      exact (by simpa [Addr.add] using this : b < w.heap.size)
    · have q := hlr k hk
      simp only [add_plain'] at q
      exact ⟨q 0 _ rfl, q 1 _ rfl, q 2 _ rfl, q 3 _ rfl, q 4 _ rfl, q 5 _ rfl⟩

theorem trod_threads {t e ts es ti : TypeId} {g f0 f1 f2 f3 f4 f5 : Field} {fuel : Nat} {v : Value} {x : DataW H × List MemPlace} (ht : P.underlying t = some (.slice e)) (he : P.underlying e = some (.struct #[g])) (hone1 : oneCellFields P #[g] = true) (hC1 : P.cellsOf e = 1) (hg : g.type = ts)
    (hts : P.underlying ts = some (.slice es)) (hes : P.underlying es = some (.struct #[f0, f1, f2, f3, f4, f5])) (hone : oneCellFields P #[f0, f1, f2, f3, f4, f5] = true) (hC : P.cellsOf es = 6)
    (hf : f0.type = ti ∧ f1.type = ti ∧ f2.type = ti ∧ f3.type = ti ∧ f4.type = ti ∧ f5.type = ti) (hti : P.underlying ti = some (.int .i64))
    (h : DataW.trod enc P w 0 spare held fuel t [v] = some x) : ∃ A l c, v = .slice A (l : List (List InsD)).length c ∧ l.length ≤ c ∧ ThreadsAt w (Old w.heap.size) A l := by
  rcases open_slice ht h with ⟨hcs, _⟩ | ⟨a, len, cap, m, n, D, Pl, hcs, _, hl, hm, hmm, _, hi⟩
  · simp only [List.cons.injEq, and_true] at hcs
    exact ⟨none, [], 0, hcs, by simp, by simp, fun h => absurd h (by simp)⟩
  · simp only [List.cons.injEq, and_true] at hcs
    have hlm : len ≤ m := by rw [hmm]; split <;> omega
    unfold maxLen at hm
    have each : ∀ i, i < len → ∃ l : List InsD, ∃ A' c', w.cell? (a.add i) = some (.slice A' l.length c') ∧ l.length ≤ c' ∧ InssAt w (Old w.heap.size) A' l := by
      intro i hil
      obtain ⟨cs', hc, ht'⟩ := hi i (by omega)
      rw [hC1, Nat.mul_one] at hc
      obtain ⟨_, hcl, hat⟩ := World.cells?_some hc
      obtain ⟨ys, n', _, _, _, hyl, hfs⟩ := DataW.trod_struct he ht'
      match cs', hcl with
      | [c0], _ =>
        obtain ⟨o0, k0⟩ := hone_of hone1 0 g rfl
        match ys, hyl with
        | [y0], _ =>
          have g0 := hfs 0 g rfl
          rw [o0, k0, hg] at g0
          obtain ⟨A', l, c', e1, e3, e2⟩ := trod_inss hts hes hone hC hf hti (x := y0) (by simpa using g0)
          refine ⟨l, A', c', ?_, e3, e2⟩
          have := hat 0 (by omega)
          simpa [Addr.add, e1] using this
    obtain ⟨l, hll, hlr⟩ := choose_list [] len _ each
    refine ⟨some a, l, cap, by rw [hll]; exact hcs, by omega, by omega, fun hp => ?_⟩
    rw [hll] at hp ⊢
    obtain ⟨A0, c0, h0, _⟩ := hlr 0 hp
    obtain ⟨b, off, rfl⟩ : ∃ b off, a = ⟨b, off, none⟩ := spot_none (v := _) (by simpa [Addr.add] using h0)
    refine ⟨b, off, rfl, ?_, fun k hk => ?_⟩
    · have := cell_lt h0
      exact (by simpa [Addr.add] using this : b < w.heap.size)
    · obtain ⟨A', c', q1, q3, q2⟩ := hlr k hk
      rw [add_plain'] at q1
      exact ⟨A', c', q1, q3, q2⟩
end

section
variable {H : Type} {enc : TypeId × Value → H} {P : Program} {w : World} {base : Nat} {spare : Nat → Bool} {held : Bool}
theorem open_agg1 {r : Reach} {b0 : Nat} {t : TypeId} {f0 : Field} {v : Value} {d : DataW H} {p : List MemPlace} (hs : P.underlying t = some (.struct #[f0])) (hone : oneCellFields P #[f0] = true) (hC : P.cellsOf t = 1)
    (hv : Value.okWide P w r b0 t v) (h : DataW.Trod enc P w base spare held t v d p) :
    ∃ (v0 : Value) (y0 : DataW H × List MemPlace) (n : Nat), v = .agg #[v0] ∧ DataW.trod enc P w base spare held n f0.type [v0] = some y0 := by
  obtain ⟨cs, rfl, hsz⟩ := okWide_struct hs hv
  obtain ⟨l⟩ := cs
  match l, hsz.trans hC with
  | [c0], _ =>
    obtain ⟨fuel, hf⟩ := h
    obtain ⟨xs, n, _, hx, _, hlen, hg⟩ := DataW.trod_struct hs hf
    obtain ⟨o0, k0⟩ := hone_of hone 0 f0 rfl
    match xs, hlen with
    | [y0], _ =>
      exact ⟨c0, y0, n, rfl, by simpa [Value.cells, o0, k0] using hg 0 f0 rfl⟩
end

section
variable {H : Type} {enc : TypeId × Value → H} {P : Program} {w : World} {spare : Nat → Bool} {held : Bool}
theorem trod_flat {t e ti : TypeId} {fs : Array Field} {k : Nat} {fuel : Nat} {v : Value} {x : DataW H × List MemPlace} (ht : P.underlying t = some (.slice e)) (he : P.underlying e = some (.struct fs)) (hone : oneCellFields P fs = true) (hC : P.cellsOf e = k) (hk0 : 0 < k)
    (hk : fs.size = k) (hf : ∀ (i : Nat) (f : Field), fs[i]? = some f → f.type = ti) (hti : P.underlying ti = some (.int .i64))
    (h : DataW.trod enc P w 0 spare held fuel t [v] = some x) : ∃ A n c, v = .slice A n c ∧ n ≤ c ∧ n ≤ 9223372036854775807 ∧ (n * k ≤ 9223372036854775807 → ∃ zs : List Int, zs.length = n * k ∧ IntsAt w (Old w.heap.size) A zs) := by
  rcases open_slice ht h with ⟨hcs, _⟩ | ⟨a, len, cap, m, n, D, Pl, hcs, _, hl, hm, hmm, _, hi⟩
  · simp only [List.cons.injEq, and_true] at hcs
    exact ⟨none, 0, 0, hcs, Nat.le_refl _, by omega, fun _ => ⟨[], by simp, by simp, fun h => absurd h (by simp)⟩⟩
  · simp only [List.cons.injEq, and_true] at hcs
    have hlm : len ≤ m := by rw [hmm]; split <;> omega
    unfold maxLen at hm
    have each : ∀ i, i < len → ∀ j, j < k → ∃ y : Int, w.cell? ((a.add (i * k)).add j) = some (.int .i64 y) := by
      intro i hil j hj
      obtain ⟨cs', hc, ht'⟩ := hi i (by omega)
      rw [hC] at hc
      obtain ⟨_, hcl, hat⟩ := World.cells?_some hc
      obtain ⟨ys, n', _, _, _, hyl, hfs⟩ := DataW.trod_struct he ht'
      obtain ⟨f, hfj⟩ : ∃ f, fs[j]? = some f := ⟨_, Array.getElem?_eq_getElem (by omega)⟩
      obtain ⟨o0, k0⟩ := hone_of hone j f hfj
      have g0 := hfs j f hfj
      rw [k0, o0, hf j f hfj] at g0
      obtain ⟨c0, hc0⟩ : ∃ c, cs'[j]? = some c := ⟨_, List.getElem?_eq_getElem (by omega)⟩
      have e0 : (cs'.drop j).take 1 = [c0] := by
        have hj2 : j < cs'.length := by omega
        rw [List.drop_eq_getElem_cons hj2, List.take_succ_cons, List.take_zero]
        rw [List.getElem?_eq_getElem hj2] at hc0
        cases hc0
        rfl
      rw [e0] at g0
      obtain ⟨y, hy⟩ : ∃ y, ys[j]? = some y := ⟨_, List.getElem?_eq_getElem (by omega)⟩
      rw [hy] at g0
      obtain ⟨a0, t0, _, _⟩ := DataW.trod_int hti g0
      simp only [List.cons.injEq, and_true] at t0
      subst t0
      exact ⟨a0, by rw [hat j hj]; exact hc0⟩
    obtain ⟨zs, hzl, hzr⟩ := choose_list (0 : Int) (len * k) (fun q y => w.cell? ((a.add (q / k * k)).add (q % k)) = some (.int .i64 y)) (fun q hq => each (q / k) ((Nat.div_lt_iff_lt_mul hk0).2 hq) (q % k) (Nat.mod_lt _ hk0))
    refine ⟨some a, len, cap, hcs, by omega, by omega, fun hlen => ⟨zs, hzl, by rw [hzl]; exact hlen, fun hp => ?_⟩⟩
    obtain ⟨b, off, rfl⟩ : ∃ b off, a = ⟨b, off, none⟩ := by
      have h0 := hzr 0 (by omega)
      simp only [Nat.zero_div, Nat.zero_mul, Nat.zero_mod] at h0
      exact spot_none (v := .int .i64 (zs.getD 0 0)) (by simpa [Addr.add] using h0)
    have hall : ∀ q, q < zs.length → w.cell? ⟨b, off + q, none⟩ = some (.int .i64 (geti zs q)) := fun q hq => by
      have h1 := hzr q (by omega)
      rw [add_plain', add_plain', Nat.add_assoc, Nat.div_add_mod'] at h1
      exact h1
    exact ⟨b, off, rfl, cell_lt (hall 0 hp), hall⟩
end
end Go.Proofs.Ytjendjbbhohjcaa
