/- eqIns, eqInsS, eqThread, eqThreadS, eqProg: true of rows that hold the same. -/
import Derived.Test.YtjendjbbhohjcaaMc0
import Derived.Test.YtjendjbbhohjcaaRows
import Derived.Deep.OwnRows
import Derived.Deep.AppendLies
import Derived.Laws.OwnMore
import Derived.Deep.QuietTactic
import Derived.BigQuiet
import Derived.StillTailTactics
namespace Go.Proofs.Ytjendjbbhohjcaa
open Go.RowKit

structure Only (g : Nat) (w w' : World) : Prop where
  os : w'.os = w.os
  tape : w'.tape = w.tape
  output : w'.output = w.output
  size : w.heap.size ≤ w'.heap.size
  block : ∀ k, k < w.heap.size → k ≠ g → w'.heap[k]? = w.heap[k]?

theorem Only.refl (g : Nat) (w : World) : Only g w w := ⟨rfl, rfl, rfl, Nat.le_refl _, fun _ _ _ => rfl⟩
theorem Only.trans {g : Nat} {a b c : World} (h : Only g a b) (k : Only g b c) : Only g a c :=
  ⟨k.os.trans h.os, k.tape.trans h.tape, k.output.trans h.output, Nat.le_trans h.size k.size, fun i hi hg => (k.block i (Nat.lt_of_lt_of_le hi h.size) hg).trans (h.block i hi hg)⟩
theorem Only.of_below {g : Nat} {a b : World} (h : Below a.heap.size a b) : Only g a b := ⟨h.os, h.tape, h.output, h.size, fun i hi _ => h.block i hi⟩
theorem Only.below {g : Nat} {a b : World} (h : Only g a b) : Below (Nat.min g a.heap.size) a b :=
  ⟨h.os, h.tape, h.output, h.size, fun k hk => h.block k (Nat.lt_of_lt_of_le hk (Nat.min_le_right _ _)) (Nat.ne_of_lt (Nat.lt_of_lt_of_le hk (Nat.min_le_left _ _)))⟩
theorem Only.drew {g : Nat} {a b : World} (h : Only g a b) : Only g a b.drew := ⟨h.os, h.tape, h.output, h.size, h.block⟩
theorem Only.drewN {g : Nat} {a b : World} (h : Only g a b) (n : Nat) : Only g a (b.drewN n) := ⟨h.os, h.tape, h.output, h.size, h.block⟩
theorem Only.alloc {g : Nat} {a b : World} (h : Only g a b) (o : Obj) : Only g a (b.alloc o) :=
  ⟨h.os, h.tape, h.output, Nat.le_trans h.size (by simp), fun k hk hg => (Below.heap_alloc b o k (Nat.lt_of_lt_of_le hk h.size)).trans (h.block k hk hg)⟩
theorem Only.setCell {g : Nat} {a b : World} (h : Only g a b) {p : Addr} (hp : p.block = g ∨ a.heap.size ≤ p.block) (u : Value) : Only g a (b.setCell p u) :=
  ⟨h.os, h.tape, h.output, by simpa [World.setCell] using h.size, fun k hk hg => (Below.heap_setCell b p u k (by rcases hp with hp | hp <;> omega)).trans (h.block k hk hg)⟩
theorem Only.cell {g : Nat} {a b : World} (h : Only g a b) {k o : Nat} (hk : k < a.heap.size) (hg : k ≠ g) : b.cell? ⟨k, o, none⟩ = a.cell? ⟨k, o, none⟩ := World.cell?_of_block (h.block k hk hg)
theorem Blk.only {g k : Nat} {a b : World} {t : TypeId} {cs : Array Value} (hb : Blk a k t cs) (h : Only g a b) (hg : k ≠ g) : Blk b k t cs := (h.block k hb.lt hg).trans hb

end Go.Proofs.Ytjendjbbhohjcaa

namespace Go.Proofs.Ytjendjbbhohjcaa
open Go.RowKit
theorem Try.infoInt : (Try.prog.info? 3).map (fun i => (i.zero, i.size, i.bytes)) = some (some (.int .i64 0), 1, 8) := by kernel_rfl
theorem make_ints (n : Nat) (hn : n ≤ 1048576) (W : World) : (Instr.makeSlice 23 (.int .i64 (n : Int)) (.int .i64 (n : Int))).run Try.prog W = .ok (.slice (some ⟨W.heap.size, 0, none⟩) n n) (W.alloc (.cells (zrow #[.int .i64 0] n) 3)) :=
  run_make_row' (P := Try.prog) 23 3 (.int .i64 0) 8 Try.underlying23 Try.infoInt rfl .i64 .i64 n (by omega) (by omega) W


def IntsWf (zs : List Int) : Prop := ∀ k, k < zs.length → (Lit.int .i64 (geti zs k)).wf = true
def marks (k : Nat) (n : Nat) : List Int := (List.range n).map (fun j => ((k + j : Nat) : Int))
theorem marks_len (k n : Nat) : (marks k n).length = n := by simp [marks]
theorem marks_get (k n j : Nat) (h : j < n) : geti (marks k n) j = ((k + j : Nat) : Int) := by
  simp [marks, geti, List.getD_eq_getElem?_getD, h]

def RowB (w : World) (q : Nat) (zs : List Int) : Prop := ∃ cs, Blk w q 3 cs ∧ zs.length ≤ cs.size ∧ ∀ k, k < zs.length → cs[k]? = some (.int .i64 (geti zs k))
section
variable {w w' : World} {q g : Nat} {zs : List Int}
theorem RowB.lt (h : RowB w q zs) : q < w.heap.size := by obtain ⟨_, h, _⟩ := h; exact h.lt
theorem RowB.below (h : RowB w q zs) (hb : Below w.heap.size w w') : RowB w' q zs := by
  obtain ⟨cs, h1, h2⟩ := h
  exact ⟨cs, h1.below hb h1.lt, h2⟩
theorem RowB.only (h : RowB w q zs) (ho : Only g w w') (hg : q ≠ g) : RowB w' q zs := by
  obtain ⟨cs, h1, h2⟩ := h
  exact ⟨cs, h1.only ho hg, h2⟩
theorem RowB.ints (h : RowB w q zs) (hn : zs.length ≤ 9223372036854775807) : IntsAt w (fun b => b = q) (some ⟨q, 0, none⟩) zs := by
  obtain ⟨cs, h1, _, h2⟩ := h
  exact ⟨hn, fun _ => ⟨q, 0, rfl, rfl, fun k hk => by rw [Nat.zero_add]; exact (h1.cell k).trans (h2 k hk)⟩⟩
theorem RowB.of_own {B c : Nat} (h : w.ownsRow B 3 1 (.slice (some ⟨q, 0, none⟩) zs.length c) zs.length (zs.map (Value.int .i64))) : RowB w q zs ∧ B ≤ q := by
  rcases h.2 with ⟨hv, _⟩ | ⟨q', cap, cur, hv, hb, hh, hcap, hmax, hcs, ht⟩
  · cases hv
  · cases hv
    refine ⟨⟨cur, hh, by omega, fun k hk => ?_⟩, hb⟩
    have h1 : cur.toList[k]? = (zs.map (Value.int .i64))[k]? := by rw [← ht, List.getElem?_take, if_pos (by omega)]
    rw [← Array.getElem?_toList, h1]
    simp [geti, List.getD_eq_getElem?_getD, List.getElem?_eq_getElem hk]
end
theorem szR_neg {left : Int} {n : Nat} (h : left < n) : szR left n = -1 := by unfold szR; rw [if_pos h]
theorem szR_pos {left : Int} {n : Nat} (h : ¬ left < n) : szR left n = left - n := by unfold szR; rw [if_neg h]

end Go.Proofs.Ytjendjbbhohjcaa

namespace Go.Proofs.Ytjendjbbhohjcaa
open Go.RowKit
set_option maxHeartbeats 400000 in
theorem szIntS_any (A : Option Addr) (n c : Nat) (left : Int) (w : World) (h0 : 0 ≤ left) (h1 : left ≤ 1048576) (hn : n ≤ 9223372036854775807) :
    Calls Try.prog 74 #[.slice A n c, .int .i64 left] w fun e w' => e = .returned (.int .i64 (szR left n)) ∧ w = w' := by
  by_cases h : left < n
  · have HF := hide (show szR left n = -1 by unfold szR; rw [if_pos h])
    go_enter Try.func74, Try.ntmps74
    go_wp2
    go_ret
    exact ⟨ret_int HF.out.symm, rfl⟩
  · have HF := hide (show szR left n = left - n by unfold szR; rw [if_neg h])
    go_enter Try.func74, Try.ntmps74
    go_wp2
    go_ret
    exact ⟨ret_int HF.out.symm, rfl⟩

end Go.Proofs.Ytjendjbbhohjcaa

namespace Go.Proofs.Ytjendjbbhohjcaa
open Go.RowKit

def RowT (t : TypeId) (w : World) (q : Nat) (zs : List Int) : Prop := ∃ cs, Blk w q t cs ∧ zs.length ≤ cs.size ∧ ∀ k, k < zs.length → cs[k]? = some (.int .i64 (geti zs k))
section
variable {t : TypeId} {w w' : World} {q g : Nat} {zs : List Int}
theorem RowT.lt (h : RowT t w q zs) : q < w.heap.size := by obtain ⟨_, h, _⟩ := h; exact h.lt
theorem RowT.below (h : RowT t w q zs) (hb : Below w.heap.size w w') : RowT t w' q zs := by
  obtain ⟨cs, h1, h2⟩ := h
  exact ⟨cs, h1.below hb h1.lt, h2⟩
theorem RowT.only (h : RowT t w q zs) (ho : Only g w w') (hg : q ≠ g) : RowT t w' q zs := by
  obtain ⟨cs, h1, h2⟩ := h
  exact ⟨cs, h1.only ho hg, h2⟩
theorem RowT.heap (h : RowT t w q zs) (hk : w'.heap[q]? = w.heap[q]?) : RowT t w' q zs := by
  obtain ⟨cs, h1, h2⟩ := h
  exact ⟨cs, hk.trans h1, h2⟩
theorem RowT.ints (h : RowT t w q zs) (hn : zs.length ≤ 9223372036854775807) : IntsAt w (fun b => b = q) (some ⟨q, 0, none⟩) zs := by
  obtain ⟨cs, h1, _, h2⟩ := h
  exact ⟨hn, fun _ => ⟨q, 0, rfl, rfl, fun k hk => by rw [Nat.zero_add]; exact (h1.cell k).trans (h2 k hk)⟩⟩
end
theorem IntsAt.two {w : World} {S : Nat → Prop} {A : Option Addr} {zs : List Int} {n k : Nat} (h : IntsAt w S A zs) (hz : zs.length = n * 2) (hk : k < n) : ∃ b off, A = some ⟨b, off, none⟩ ∧ S b ∧ w.cell? ⟨b, off + k * 2, none⟩ = some (.int .i64 (geti zs (k * 2))) ∧ w.cell? ⟨b, off + k * 2 + 1, none⟩ = some (.int .i64 (geti zs (k * 2 + 1))) := by
  obtain ⟨b, off, e, hb, hc⟩ := h.2 (by omega)
  exact ⟨b, off, e, hb, hc _ (by omega), by have := hc (k * 2 + 1) (by omega); rwa [← Nat.add_assoc] at this⟩


def RvT (t : TypeId) (w : World) (B : Nat) (v : Value) (n : Nat) (zs : List Int) : Prop := (v = .slice none 0 0 ∧ n = 0 ∧ zs = []) ∨ ∃ q c, v = .slice (some ⟨q, 0, none⟩) n c ∧ RowT t w q zs ∧ B ≤ q
section
variable {t t' : TypeId} {w w' : World} {B B' n n' : Nat} {v v' : Value} {zs zs' : List Int}
theorem RvT.form (h : RvT t w B v n zs) : ∃ A c, v = .slice A n c := by
  rcases h with ⟨rfl, rfl, _⟩ | ⟨q, c, rfl, _⟩
  · exact ⟨_, _, rfl⟩
  · exact ⟨_, _, rfl⟩
theorem RvT.own_lt (h : RvT t w B v n zs) {b : Nat} (hb : v.ownBlock = some b) : B ≤ b ∧ b < w.heap.size := by
  rcases h with ⟨rfl, rfl, _⟩ | ⟨q, c, rfl, hr, hq⟩
  · simp [Value.ownBlock] at hb
  · have : q = b := by simpa [Value.ownBlock] using hb
    subst this
    exact ⟨hq, hr.lt⟩
theorem RvT.keep (h : RvT t w B v n zs) (hk : ∀ k, k < w.heap.size → v.ownBlock = some k → w'.heap[k]? = w.heap[k]?) : RvT t w' B v n zs := by
  rcases h with h | ⟨q, c, rfl, hr, hq⟩
  · exact .inl h
  · exact .inr ⟨q, c, rfl, hr.heap (hk q hr.lt rfl), hq⟩
theorem RvT.next (h : RvT t w B v n zs) (hb : Below w.heap.size w w') : RvT t w' B v n zs := h.keep (fun k hk _ => hb.block k hk)
theorem RvT.base (h : RvT t w B v n zs) (hB : B' ≤ B) : RvT t w B' v n zs := by
  rcases h with h | ⟨q, c, e, hr, hq⟩
  · exact .inl h
  · exact .inr ⟨q, c, e, hr, Nat.le_trans hB hq⟩
theorem RvT.apart (h : RvT t w B v n zs) (k : RvT t' w' w.heap.size v' n' zs') : Apart v v' := fun b hu hv => by
  have := (h.own_lt hu).2
  have := (k.own_lt hv).1
  omega
theorem RvT.grown (h : RvT t w B v n zs) (hg : w.grownBy w' v'.ownBlock) (ha : Apart v v') : RvT t w' B v n zs := h.keep (fun k hk hv => hg.block k hk (fun e => ha k hv e.symm))
theorem RvT.setCell (h : RvT t w B v n zs) {p : Addr} (hp : p.block < B) (u : Value) : RvT t (w.setCell p u) B v n zs :=
  h.keep (fun k _ hk => Below.heap_setCell w p u k (by have := (h.own_lt hk).1; omega))
theorem RvT.ints (h : RvT t w B v n zs) (hn : zs.length ≤ 9223372036854775807) {A : Option Addr} {m c : Nat} (hv : v = .slice A m c) : IntsAt w (Old w.heap.size) A zs := by
  rcases h with ⟨rfl, _, rfl⟩ | ⟨q, c', rfl, hr, _⟩
  · cases hv
    exact ⟨by simp, fun h => by simp at h⟩
  · cases hv
    exact (hr.ints hn).more (fun b e => by subst e; exact hr.lt)
theorem RvT.intsN (h : RvT t w B v n zs) (hn : zs.length ≤ 9223372036854775807) {A : Option Addr} {m c : Nat} (hv : v = .slice A m c) : IntsAt w (New B w.heap.size) A zs := by
  rcases h with ⟨rfl, _, rfl⟩ | ⟨q, c', rfl, hr, hq⟩
  · cases hv
    exact ⟨by simp, fun h => by simp at h⟩
  · cases hv
    exact (hr.ints hn).more (fun b e => by subst e; exact ⟨hq, hr.lt⟩)
theorem RvT.of_own {size : Nat} (h : w.ownsRow B t size v n (zs.map (Value.int .i64))) : RvT t w B v n zs := by
  rcases h.2 with ⟨hv, hn⟩ | ⟨q, cap, cur, hv, hb, hh, hcap, hmax, hcs, ht⟩
  · subst hn
    have h1 := h.1
    simp at h1
    exact .inl ⟨hv, rfl, h1⟩
  · refine .inr ⟨q, cap, hv, ⟨cur, hh, ?_, fun k hk => ?_⟩, hb⟩
    · have h1 := congrArg List.length ht
      simp at h1
      omega
    · have hk' : k < n * size := by have h1 := h.1; simp at h1; omega
      have h1 : cur.toList[k]? = (zs.map (Value.int .i64))[k]? := by rw [← ht, List.getElem?_take, if_pos hk']
      rw [← Array.getElem?_toList, h1]
      simp [geti, List.getD_eq_getElem?_getD, List.getElem?_eq_getElem hk]
end
def RowO (t : TypeId) (size : Nat) (w w' : World) (e : Ending) (n : Nat) (zs : List Int) : Prop := ∃ A c, e = .returned (.slice A n c) ∧ w'.ownsRow w.heap.size t size (.slice A n c) n (zs.map (Value.int .i64)) ∧ Below w.heap.size w w'
theorem lower {w : World} {B B' : Nat} {e : TypeId} {size n : Nat} {v : Value} {xs : List Value} (h : w.ownsRow B e size v n xs) (hB : B' ≤ B) : w.ownsRow B' e size v n xs := by
  refine ⟨h.1, ?_⟩
  rcases h.2 with h | ⟨q, cap, cur, hv, hb, hr⟩
  · exact .inl h
  · exact .inr ⟨q, cap, cur, hv, Nat.le_trans hB hb, hr⟩
theorem kept {w w' : World} {B : Nat} {e : TypeId} {size n : Nat} {v : Value} {xs : List Value} (h : w.ownsRow B e size v n xs) (hk : ∀ k, k < w.heap.size → v.ownBlock = some k → w'.heap[k]? = w.heap[k]?) : w'.ownsRow B e size v n xs := by
  refine ⟨h.1, ?_⟩
  rcases h.2 with h | ⟨q, cap, cur, rfl, hb, hh, hr⟩
  · exact .inl h
  · refine .inr ⟨q, cap, cur, rfl, hb, (hk q ?_ rfl).trans hh, hr⟩
    rcases Nat.lt_or_ge q w.heap.size with hl | hl
    · exact hl
    · rw [Array.getElem?_eq_none hl] at hh; cases hh
theorem own_at {w : World} {B : Nat} {e : TypeId} {size n : Nat} {v : Value} {xs : List Value} (h : w.ownsRow B e size v n xs) {k : Nat} (hk : v.ownBlock = some k) : B ≤ k ∧ k < w.heap.size := by
  rcases h.2 with ⟨rfl, _⟩ | ⟨q, cap, cur, rfl, hb, hh, _⟩
  · simp [Value.ownBlock] at hk
  · have : q = k := by simpa [Value.ownBlock] using hk
    subst this
    refine ⟨hb, ?_⟩
    rcases Nat.lt_or_ge q w.heap.size with hl | hl
    · exact hl
    · rw [Array.getElem?_eq_none hl] at hh; cases hh
theorem own_cap {w : World} {B : Nat} {e : TypeId} {size n c : Nat} {A : Option Addr} {xs : List Value} (h : w.ownsRow B e size (.slice A n c) n xs) : n ≤ c := by
  rcases h.2 with ⟨hv, hn⟩ | ⟨q, cap, cur, hv, _, _, hcap, _⟩
  · cases hv; exact Nat.le_refl _
  · cases hv; exact hcap
theorem own_pos {w : World} {B : Nat} {e : TypeId} {size n c : Nat} {A : Option Addr} {zs : List Int} (h : w.ownsRow B e size (.slice A n c) n (zs.map (Value.int .i64))) (hn : 0 < n) : ∃ q, A = some ⟨q, 0, none⟩ ∧ B ≤ q ∧ ∃ cs, Blk w q e cs ∧ zs.length ≤ cs.size ∧ ∀ k, k < zs.length → cs[k]? = some (.int .i64 (geti zs k)) := by
  rcases RvT.of_own h with ⟨_, h0, _⟩ | ⟨q, c', e, ⟨cs, h1, h2, h3⟩, hq⟩
  · omega
  · cases e
    exact ⟨q, rfl, hq, cs, h1, h2, h3⟩
def RowR (t : TypeId) (w w' : World) (e : Ending) (n : Nat) (zs : List Int) : Prop := ∃ A c, e = .returned (.slice A n c) ∧ RvT t w' w.heap.size (.slice A n c) n zs ∧ Below w.heap.size w w'

theorem own_slice {w : World} {B : Nat} {e : TypeId} {size n : Nat} {v : Value} {xs : List Value} (h : w.ownsRow B e size v n xs) : ∃ A c, v = .slice A n c := by
  rcases h.2 with ⟨rfl, rfl⟩ | ⟨q, cap, cur, rfl, _⟩
  · exact ⟨_, _, rfl⟩
  · exact ⟨_, _, rfl⟩

section
variable {P : Program} (w : World)
theorem run_append_src (t ty : TypeId) (base : Nat) (e : TypeId) (i : TypeInfo) (z : Value) (size bytes : Nat) (ht : P.underlying t = some (.slice e)) (hi : P.info? e = some i) (hz : i.zero = some z)
    (hsize : i.size = size) (hby : i.bytes = bytes) (hzs : z.cells.size = size) (hsz : 0 < size)
    (v : Value) (n : Nat) (xs : List Value) (hown : w.ownsRow base e size v n xs)
    (S : Nat → Prop) (A : Option Addr) (m c : Nat) (zs : List Int) (hl : zs.length = m * size) (ha : IntsAt w S A zs)
    (h63 : n + m ≤ maxLen) (hbytes : (n + m) * bytes ≤ 140737488355328) (hbase : base ≤ w.heap.size) :
    ∃ A' c' w', (Builtin.append_ #[t, t] ty #[v, .slice A m c]).run P w = .ok (.slice A' (n + m) c') w' ∧ w'.ownsRow base e size (.slice A' (n + m) c') (n + m) (xs ++ zs.map (Value.int .i64)) ∧ w.grownBy w' v.ownBlock ∧
      ((Value.slice A' (n + m) c').ownBlock = v.ownBlock ∨ (Value.slice A' (n + m) c').ownBlock = some w.heap.size) := by
  rcases A with _ | ad
  · have hm : m = 0 := by
      rcases Nat.eq_zero_or_pos m with h0 | h0
      · exact h0
      · obtain ⟨b, off, h, _⟩ := ha.2 (by rw [hl]; exact Nat.mul_pos h0 hsz)
        cases h
    subst hm
    have hn : zs = [] := List.eq_nil_of_length_eq_zero (by simpa using hl)
    subst hn
    have hrun : (Builtin.append_ #[t, t] ty #[v, .slice none 0 c]).run P w = .ok v w := by
      rcases hown.2 with ⟨rfl, rfl⟩ | ⟨g, cap, cur, rfl, _, _, hnc, _⟩
      · simp [Builtin.append_, run_underlying ht, sizeOf, typeInfo, hi, Builtin.lenOf, Builtin.firstCells]
      · simp [Builtin.append_, run_underlying ht, sizeOf, typeInfo, hi, Builtin.lenOf, Builtin.firstCells, hnc, storeCells]
    obtain ⟨A', c', rfl⟩ := own_slice hown
    exact ⟨A', c', w, hrun, by simpa using hown, World.grownBy.refl w _, .inl rfl⟩
  · have hsrc : ∀ j u, (zs.map (Value.int .i64))[j]? = some u → w.cell? (ad.add j) = some u := by
      intro j u hj
      rcases Nat.lt_or_ge j zs.length with hlt | hge
      · obtain ⟨b, off, e1, _, hc⟩ := ha.2 (by omega)
        cases e1
        have hadd : (⟨b, off, none⟩ : Addr).add j = ⟨b, off + j, none⟩ := by unfold Addr.add; split <;> simp_all
        rw [hadd, hc j hlt]
        simpa [geti, List.getD_eq_getElem?_getD, List.getElem?_eq_getElem hlt] using hj
      · rw [List.getElem?_eq_none (by simpa using hge)] at hj
        cases hj
    obtain ⟨v', w', hr, h2, h3, _, h5⟩ := run_append_own_at (P := P) w base t ty e i z size bytes ht hi hz hsize hby hzs hsz v n xs hown ad m c (zs.map (Value.int .i64)) (by simpa using hl) hsrc (by simp [Value.oneCell']) h63 hbytes hbase
    obtain ⟨A', c', rfl⟩ := own_slice h2
    exact ⟨A', c', w', hr, h2, h3, h5⟩

theorem wp_append_src {o : Oper} {a : Act} {K : Act → World → Prop} {Q : Exit → Act → World → Prop} (s x : Operand) (t : TypeId)
    (ho : o.op = .call { callee := .builtin .append, args := #[s, x], argTypes := #[t, t] })
    (base : Nat) (e : TypeId) (i : TypeInfo) (z : Value) (size bytes : Nat) (ht : P.underlying t = some (.slice e)) (hi : P.info? e = some i) (hz : i.zero = some z)
    (hsize : i.size = size) (hby : i.bytes = bytes) (hzs : z.cells.size = size) (hsz : 0 < size)
    (v : Value) (n : Nat) (xs : List Value) (hs : a.eval s = v) (hown : w.ownsRow base e size v n xs)
    (S : Nat → Prop) (A : Option Addr) (m c : Nat) (zs : List Int) (hx : a.eval x = .slice A m c) (hl : zs.length = m * size) (ha : IntsAt w S A zs)
    (h63 : n + m ≤ maxLen) (hbytes : (n + m) * bytes ≤ 140737488355328) (hbase : base ≤ w.heap.size)
    (h : ∀ A' c' w', w'.ownsRow base e size (.slice A' (n + m) c') (n + m) (xs ++ zs.map (Value.int .i64)) → w.grownBy w' v.ownBlock → ((Value.slice A' (n + m) c').ownBlock = v.ownBlock ∨ (Value.slice A' (n + m) c').ownBlock = some w.heap.size) → K (a.put o.dst (.slice A' (n + m) c')) w') : o.wp P a w K Q := by
  obtain ⟨A', c', w', hr, h2, h3, h4⟩ := run_append_src (P := P) w t o.type base e i z size bytes ht hi hz hsize hby hzs hsz v n xs hown S A m c zs hl ha h63 hbytes hbase
  unfold Oper.wp execOp
  simp only [ho, resolve, invoke, builtin, Sem.run_bind, Sem.run_pure, Result.andThen_ok, List.map_toArray, List.map_cons, List.map_nil, hs, hx, hr]
  exact h A' c' w' h2 h3 h4

theorem wpList_append_src {ops : Array Oper} {rest : List Oper} {o : Oper} {a : Act} {Q : Exit → Act → World → Prop} (hgd : o.guard = none) (s x : Operand) (t : TypeId)
    (ho : o.op = .call { callee := .builtin .append, args := #[s, x], argTypes := #[t, t] })
    (base : Nat) (e : TypeId) (i : TypeInfo) (z : Value) (size bytes : Nat) (ht : P.underlying t = some (.slice e)) (hi : P.info? e = some i) (hz : i.zero = some z)
    (hsize : i.size = size) (hby : i.bytes = bytes) (hzs : z.cells.size = size) (hsz : 0 < size)
    (v : Value) (n : Nat) (xs : List Value) (hs : a.eval s = v) (hown : w.ownsRow base e size v n xs)
    (S : Nat → Prop) (A : Option Addr) (m c : Nat) (zs : List Int) (hx : a.eval x = .slice A m c) (hl : zs.length = m * size) (ha : IntsAt w S A zs)
    (h63 : n + m ≤ maxLen) (hbytes : (n + m) * bytes ≤ 140737488355328) (hbase : base ≤ w.heap.size)
    (h : ∀ A' c' w', w'.ownsRow base e size (.slice A' (n + m) c') (n + m) (xs ++ zs.map (Value.int .i64)) → w.grownBy w' v.ownBlock → ((Value.slice A' (n + m) c').ownBlock = v.ownBlock ∨ (Value.slice A' (n + m) c').ownBlock = some w.heap.size) → wpList P ops Q rest (a.put o.dst (.slice A' (n + m) c')) w') : wpList P ops Q (o :: rest) a w :=
  wpList_plain hgd fun _ hK => wp_append_src w s x t ho base e i z size bytes ht hi hz hsize hby hzs hsz v n xs hs hown S A m c zs hx hl ha h63 hbytes hbase fun A' c' w' h2 h3 h4 => hK _ _ (h A' c' w' h2 h3 h4)
end
theorem below_own {w w' : World} {r : Option Nat} {B : Nat} (hg : w.grownBy w' r) (hr : ∀ k, k < B → some k ≠ r) (hB : B ≤ w.heap.size) : Below B w w' :=
  ⟨hg.os, hg.tape, hg.output, hg.size, fun k hk => hg.block k (Nat.lt_of_lt_of_le hk hB) (hr k hk)⟩
theorem own_row {w : World} {B : Nat} {e : TypeId} {size n : Nat} {cs : Array Value} (hB : B ≤ w.heap.size) (hn : n ≤ 1048576) (hs : cs.size = n * size) : (w.alloc (.cells cs e)).ownsRow B e size (.slice (some ⟨w.heap.size, 0, none⟩) n n) n cs.toList :=
  ⟨by simpa using hs, .inr ⟨_, n, cs, rfl, hB, heap_alloc_new w _, Nat.le_refl _, by have : maxLen = 9223372036854775807 := rfl; omega, hs, List.take_of_length_le (by simp [hs])⟩⟩
end Go.Proofs.Ytjendjbbhohjcaa

namespace Go.Proofs.Ytjendjbbhohjcaa
open Go.RowKit
def RvI (t : TypeId) (w : World) (lo hi : Nat) (v : Value) (n : Nat) (zs : List Int) : Prop := RvT t w lo v n zs ∧ ∀ b, v.ownBlock = some b → b < hi
section
variable {t t' : TypeId} {w w' w0 : World} {lo hi lo' hi' n n' k : Nat} {v v' : Value} {zs zs' : List Int} {cs : Array Value}
theorem RvI.of (h : RvT t w lo v n zs) : RvI t w lo w.heap.size v n zs := ⟨h, fun _ hb => (h.own_lt hb).2⟩
theorem RvI.next (h : RvI t w lo hi v n zs) (hb : Below w.heap.size w w') : RvI t w' lo hi v n zs := ⟨h.1.next hb, h.2⟩
theorem RvI.base (h : RvI t w lo hi v n zs) (hB : lo' ≤ lo) : RvI t w lo' hi v n zs := ⟨h.1.base hB, h.2⟩
theorem RvI.grown (h : RvI t w lo hi v n zs) (hg : w.grownBy w' v'.ownBlock) (hv : RvI t' w lo' hi' v' n' zs') (ha : hi ≤ lo' ∨ hi' ≤ lo) : RvI t w' lo hi v n zs :=
  ⟨h.1.keep (fun k hk e => hg.block k hk (fun e' => by
    have h1 := h.2 k e
    have h2 := (h.1.own_lt e).1
    have h3 := hv.2 k e'.symm
    have h4 := (hv.1.own_lt e'.symm).1
    omega)), h.2⟩
theorem RvI.setCell (h : RvI t w lo hi v n zs) {p : Addr} (hp : p.block < lo ∨ hi ≤ p.block) (u : Value) : RvI t (w.setCell p u) lo hi v n zs :=
  ⟨h.1.keep (fun k _ hk => Below.heap_setCell w p u k (fun e => by
    have h1 := h.2 k hk
    have h2 := (h.1.own_lt hk).1
    omega)), h.2⟩
theorem Blk.grownI (h : Blk w k t cs) (hg : w.grownBy w' v.ownBlock) (hv : RvI t' w lo hi v n zs) (hne : t ≠ t') : Blk w' k t cs := by
  refine (hg.block k h.lt (fun e => ?_)).trans h
  rcases hv.1 with ⟨rfl, _⟩ | ⟨q, c, rfl, ⟨ds, h1, _⟩, _⟩
  · cases e
  · have e2 : q = k := by simpa [Value.ownBlock] using e.symm
    subst e2
    have h2 : w.heap[q]? = some (.cells cs t (0, 0)) := h
    have h3 : w.heap[q]? = some (.cells ds t' (0, 0)) := h1
    rw [h2] at h3
    cases h3
    exact hne rfl
theorem RvI.grownT (h : RvI t w lo hi v n zs) (hg : w.grownBy w' v'.ownBlock) (hv : RvI t' w lo' hi' v' n' zs') (hne : t ≠ t') : RvI t w' lo hi v n zs := by
  refine ⟨?_, h.2⟩
  rcases h.1 with h1 | ⟨q, c, rfl, ⟨ds, h1, h2, h3⟩, hq⟩
  · exact .inl h1
  · exact .inr ⟨q, c, rfl, ⟨ds, h1.grownI hg hv hne, h2, h3⟩, hq⟩
theorem below_next {B : Nat} (h : Below B w0 w) (hb : Below w.heap.size w w') (hB : B ≤ w.heap.size) : Below B w0 w' := h.trans (hb.mono hB)
theorem below_grownI {B : Nat} (h : Below B w0 w) (hg : w.grownBy w' v.ownBlock) (hv : RvI t w lo hi v n zs) (hlo : B ≤ lo) (hB : B ≤ w.heap.size) : Below B w0 w' :=
  h.trans (below_own hg (fun k hk e => by have := (hv.1.own_lt e.symm).1; omega) hB)
theorem IntsAt.nextI {B : Nat} {A : Option Addr} (h : IntsAt w (Old B) A zs) (hb : Below w.heap.size w w') (hB : B ≤ w.heap.size) : IntsAt w' (Old B) A zs := h.below hb (fun _ h => Nat.lt_of_lt_of_le h hB)
theorem IntsAt.grownI {B : Nat} {A : Option Addr} {ys : List Int} (h : IntsAt w (Old B) A ys) (hg : w.grownBy w' v.ownBlock) (hv : RvI t w lo hi v n zs) (hlo : B ≤ lo) (hB : B ≤ w.heap.size) : IntsAt w' (Old B) A ys :=
  h.below (below_own hg (fun k hk e => by have := (hv.1.own_lt e.symm).1; omega) hB) (fun _ h => h)
theorem RvI.src (h : RvI t w lo hi v n zs) (hn : zs.length ≤ 9223372036854775807) {A : Option Addr} {m c : Nat} (hv : v = .slice A m c) : IntsAt w (Old w.heap.size) A zs := h.1.ints hn hv
theorem RvI.srcN (h : RvI t w lo hi v n zs) (hn : zs.length ≤ 9223372036854775807) {A : Option Addr} {m c : Nat} (hv : v = .slice A m c) : IntsAt w (New lo hi) A zs := by
  rcases h with ⟨hr, hh⟩
  rcases hr with ⟨rfl, _, rfl⟩ | ⟨q, c', rfl, hr, hq⟩
  · cases hv
    exact ⟨by simp, fun h => by simp at h⟩
  · cases hv
    exact (hr.ints hn).more (fun b e => by subst e; exact ⟨hq, hh _ rfl⟩)
theorem grown_below {r : Option Nat} (hb : Below w.heap.size w w') : w.grownBy w' r := ⟨hb.os, hb.tape, hb.output, hb.size, fun k hk _ => hb.block k hk⟩
theorem grown_only {q : Nat} (ho : Only q w w') : w.grownBy w' (some q) := ⟨ho.os, ho.tape, ho.output, ho.size, fun k hk hne => ho.block k hk (fun e => hne (by rw [e]))⟩
end

def markZ (k : Int) (m : Nat) : Int := k + m
theorem markZ_nonneg {k : Int} {m : Nat} (h : 0 ≤ k) : ¬ markZ k m < 0 := by unfold markZ; omega
theorem markZ_ge {k : Int} {m : Nat} (h : 0 ≤ k) : 0 ≤ markZ k m := by unfold markZ; omega
theorem markZ_le {k : Int} {m : Nat} {B C : Nat} (h : k ≤ B) (hm : m ≤ C) : markZ k m ≤ ((B + C : Nat) : Int) := by unfold markZ; omega

theorem old_lts {B : Nat} {w : World} (hB : B ≤ w.heap.size) : ∀ b, Old B b → b < w.heap.size := fun _ h => Nat.lt_of_lt_of_le h hB
theorem box1 {w : World} {g : Nat} {t : TypeId} {a : Value} (h : Blk w g t #[a]) : (w.cell? ⟨g, 0, none⟩ = some a ∧ w.frozen? ⟨g, 0, none⟩ = false) ∧ g < w.heap.size := ⟨⟨h.cell 0, h.frozen 0⟩, h.lt⟩
end Go.Proofs.Ytjendjbbhohjcaa

namespace Go.Proofs.Ytjendjbbhohjcaa
open Go.RowKit
set_option maxHeartbeats 800000 in
theorem eqIntS_any (A A' : Option Addr) (zs : List Int) (c c' : Nat) (S : Nat → Prop) (w : World) (hS : ∀ b, S b → b < w.heap.size) (ha : IntsAt w S A zs) (ha' : IntsAt w S A' zs) :
    Calls Try.prog 32 #[.slice A zs.length c, .slice A' zs.length c'] w fun e w' => e = .returned (.bool true) ∧ Below w.heap.size w w' := by
  have hn := ha.1
  go_enter Try.func32, Try.ntmps32
  go_wp2
  go_loopw [5] (fun i wr => ∃ (k : Nat), k ≤ zs.length ∧ i = .int .i64 k ∧ Below w.heap.size w wr) (fun i _ => zs.length - (intOf i).toNat)
  case atStart => exact ⟨0, Nat.zero_le _, rfl, Below.refl _ _⟩
  case round =>
    obtain ⟨k, hk, rfl, hb⟩ := hrel
    by_cases hlt : k < zs.length
    · obtain ⟨b, off, rfl, hbB, hc⟩ := (ha.below hb hS).2 (by omega)
      obtain ⟨b', off', rfl, hbB', hc'⟩ := (ha'.below hb hS).2 (by omega)
      have hcell := hc k hlt
      have hcell' := hc' k hlt
      have hx : ((k : Int) < (zs.length : Int)) := by omega
      clear hc hc'
      go_wp2
      go_quiet (fail)
      go_wp2
      go_roundw
      case rel => exact ⟨k + 1, by omega, by go_num, below_drewN hb _⟩
      case measure => simp [intOf]; omega
    · obtain rfl : k = zs.length := by omega
      go_wp2
      go_ret
      exact ⟨rfl, hb⟩

theorem eqIntSI {w : World} {lo hi lo' hi' n c c' : Nat} {A A' : Option Addr} {zs : List Int} (hz : zs.length = n) (hn : n ≤ 9223372036854775807) (h : RvI 3 w lo hi (.slice A n c) n zs) (k : RvI 3 w lo' hi' (.slice A' n c') n zs) :
    Calls Try.prog 32 #[.slice A n c, .slice A' n c'] w fun e w' => e = .returned (.bool true) ∧ Below w.heap.size w w' := by
  subst hz
  exact eqIntS_any A A' zs c c' _ w (fun _ h => h) (h.src hn rfl) (k.src hn rfl)
end Go.Proofs.Ytjendjbbhohjcaa

namespace Go.Proofs.Ytjendjbbhohjcaa
open Go.RowKit

set_option maxHeartbeats 800000 in
theorem eqIns_any (d : InsD) (w : World) :
    Calls Try.prog 139 #[.agg #[.int .i64 d.o, .int .i64 d.r, .int .i64 d.a, .int .i64 d.b, .int .i64 d.x, .int .i64 d.n], .agg #[.int .i64 d.o, .int .i64 d.r, .int .i64 d.a, .int .i64 d.b, .int .i64 d.x, .int .i64 d.n]] w fun e w' => e = .returned (.bool true) ∧ Below w.heap.size w w' := by
  go_enter Try.func139, Try.ntmps139
  go_wp2
  go_ret
  exact ⟨rfl, below2 _ _ _⟩

set_option maxRecDepth 100000 in
set_option maxHeartbeats 800000 in
theorem eqInsS_any (A A' : Option Addr) (l : List InsD) (c c' : Nat) (S : Nat → Prop) (w : World) (hS : ∀ b, S b → b < w.heap.size) (ha : InssAt w S A l) (ha' : InssAt w S A' l) :
    Calls Try.prog 123 #[.slice A l.length c, .slice A' l.length c'] w fun e w' => e = .returned (.bool true) ∧ Below w.heap.size w w' := by
  have hn := ha.1
  go_enter Try.func123, Try.ntmps123
  go_wp2
  go_loopw [5] (fun i wr => ∃ (k : Nat), k ≤ l.length ∧ i = .int .i64 k ∧ Below w.heap.size w wr) (fun i _ => l.length - (intOf i).toNat)
  case atStart => exact ⟨0, Nat.zero_le _, rfl, Below.refl _ _⟩
  case round =>
    obtain ⟨k, hk, rfl, hb⟩ := hrel
    by_cases hlt : k < l.length
    · obtain ⟨b, off, rfl, hbB, hc⟩ := (ha.below hb hS).2 (by omega)
      obtain ⟨b', off', rfl, hbB', hc'⟩ := (ha'.below hb hS).2 (by omega)
      obtain ⟨c0, c1, c2, c3, c4, c5⟩ := hc k hlt
      obtain ⟨g0, g1, g2, g3, g4, g5⟩ := hc' k hlt
      have hx : ((k : Int) < (l.length : Int)) := by omega
      clear hc hc'
      go_wp2_with fail
      go_still_tail 8, (by kernel_rfl)
      have hbd := hb.drew
      change wpList _ _ _ _ _ wr.drew
      generalize wr.drew = w2 at *
      go_wp2_with (go_at_call 139; refine (eqIns_any (getd l k) _).mono ?_; rintro e w3 ⟨rfl, hb3⟩)
      go_roundw
      case rel => exact ⟨k + 1, by omega, by go_num, below_then hbd hb3⟩
      case measure => simp [intOf]; omega
    · obtain rfl : k = l.length := by omega
      go_wp2
      go_ret
      exact ⟨rfl, hb⟩

set_option maxHeartbeats 800000 in
theorem eqThread_any (A A' : Option Addr) (l : List InsD) (c c' : Nat) (S : Nat → Prop) (w : World) (hS : ∀ b, S b → b < w.heap.size) (ha : InssAt w S A l) (ha' : InssAt w S A' l) :
    Calls Try.prog 108 #[.agg #[.slice A l.length c], .agg #[.slice A' l.length c']] w fun e w' => e = .returned (.bool true) ∧ Below w.heap.size w w' := by
  have hb2 := below2 w (Obj.cells #[Value.slice A l.length c] 45) (Obj.cells #[Value.slice A' l.length c'] 45)
  go_enter Try.func108, Try.ntmps108
  go_wp2_with fail
  refine (eqInsS_any A A' l c c' S _ (fun b h => Nat.lt_of_lt_of_le (hS b h) hb2.size) (ha.below hb2 hS) (ha'.below hb2 hS)).mono ?_
  rintro e w3 ⟨rfl, hb3⟩
  go_wp2_with fail
  go_ret
  exact ⟨rfl, below_then hb2 hb3⟩

set_option maxRecDepth 100000 in
set_option maxHeartbeats 800000 in
theorem eqThreadS_any (A A' : Option Addr) (ts : List (List InsD)) (c c' : Nat) (S : Nat → Prop) (w : World) (hS : ∀ b, S b → b < w.heap.size) (ha : ThreadsAt w S A ts) (ha' : ThreadsAt w S A' ts) :
    Calls Try.prog 87 #[.slice A ts.length c, .slice A' ts.length c'] w fun e w' => e = .returned (.bool true) ∧ Below w.heap.size w w' := by
  have hn := ha.1
  go_enter Try.func87, Try.ntmps87
  go_wp2
  go_loopw [5] (fun i wr => ∃ (k : Nat), k ≤ ts.length ∧ i = .int .i64 k ∧ Below w.heap.size w wr) (fun i _ => ts.length - (intOf i).toNat)
  case atStart => exact ⟨0, Nat.zero_le _, rfl, Below.refl _ _⟩
  case round =>
    obtain ⟨k, hk, rfl, hb⟩ := hrel
    by_cases hlt : k < ts.length
    · obtain ⟨b, off, rfl, hbB, hc⟩ := (ha.below hb hS).2 (by omega)
      obtain ⟨b', off', rfl, hbB', hc'⟩ := (ha'.below hb hS).2 (by omega)
      obtain ⟨A2, c2, h1, hcap, h2⟩ := hc k hlt
      obtain ⟨A3, c3, h3, hcap', h4⟩ := hc' k hlt
      have hx : ((k : Int) < (ts.length : Int)) := by omega
      clear hc hc'
      go_wp2_with fail
      go_still_tail 8, (by kernel_rfl)
      have hbd := hb.drew
      have h2d : InssAt wr.drew S A2 (gett ts k) := h2
      have h4d : InssAt wr.drew S A3 (gett ts k) := h4
      change wpList _ _ _ _ _ wr.drew
      clear h1 h2 h3 h4
      generalize wr.drew = w2 at *
      go_wp2_with (go_at_call 108; refine (eqThread_any A2 A3 (gett ts k) c2 c3 S _ (fun b h => Nat.lt_of_lt_of_le (hS b h) hbd.size) h2d h4d).mono ?_; rintro e w3 ⟨rfl, hb3⟩)
      go_roundw
      case rel => exact ⟨k + 1, by omega, by go_num, below_then hbd hb3⟩
      case measure => simp [intOf]; omega
    · obtain rfl : k = ts.length := by omega
      go_wp2
      go_ret
      exact ⟨rfl, hb⟩

set_option maxHeartbeats 800000 in
theorem eqProg_any (v v' : Value) (p : ProgD) (S : Nat → Prop) (w : World) (hS : ∀ b, S b → b < w.heap.size) (hp : ProgAt w S v p) (hp' : ProgAt w S v' p) :
    Calls Try.prog 44 #[v, v'] w fun e w' => e = .returned (.bool true) ∧ Below w.heap.size w w' := by
  obtain ⟨A, c, A', c', rfl, hcc, hi, ht⟩ := hp
  obtain ⟨A2, c2, A2', c2', rfl, hcc', hi', ht'⟩ := hp'
  have hb2 := below2 w (Obj.cells #[Value.slice A p.init.length c, Value.slice A' p.ts.length c'] 37) (Obj.cells #[Value.slice A2 p.init.length c2, Value.slice A2' p.ts.length c2'] 37)
  go_enter Try.func44, Try.ntmps44
  go_wp2_with fail
  refine (eqIntS_any A A2 p.init c c2 S _ (fun b h => Nat.lt_of_lt_of_le (hS b h) hb2.size) (hi.below hb2 hS) (hi'.below hb2 hS)).mono ?_
  rintro e w3 ⟨rfl, hb3⟩
  obtain ⟨hcl3, hfz3⟩ := bcell hb3
  go_wp2_with fail
  have hb4 := below_then hb2 hb3
  refine (eqThreadS_any A' A2' p.ts c' c2' S _ (fun b h => Nat.lt_of_lt_of_le (hS b h) hb4.size) (ht.below hb4 hS) (ht'.below hb4 hS)).mono ?_
  rintro e w5 ⟨rfl, hb5⟩
  go_wp2_with fail
  go_ret
  exact ⟨rfl, below_then hb4 hb5⟩
end Go.Proofs.Ytjendjbbhohjcaa
