/- Rows of numbers at the head of a block; marks; what a sum leaves: of no function of the program. -/
import Derived.Test.YtjendjbbhohjcaaCore
import Derived.Test.YtjendjbbhohjcaaOnly
import Derived.Test.YtjendjbbhohjcaaRows
import Derived.Deep.OwnRows
namespace Go.Proofs.Ytjendjbbhohjcaa
open Go.RowKit
theorem Try.infoInt : (Try.prog.info? 3).map (fun i => (i.zero, i.size, i.bytes)) = some (some (.int .i64 0), 1, 8) := by kernel_rfl
theorem make_ints (n : Nat) (hn : n ≤ 1048576) (W : World) : (Instr.makeSlice 23 (.int .i64 (n : Int)) (.int .i64 (n : Int))).run Try.prog W = .ok (.slice (some ⟨W.heap.size, 0, none⟩) n n) (W.alloc (.cells (zrow #[.int .i64 0] n) 3)) :=
  run_make_row' (P := Try.prog) 23 3 (.int .i64 0) 8 Try.underlying23 Try.infoInt rfl .i64 .i64 n (by omega) (by omega) W


def IntsWf (zs : List Int) : Prop := ∀ k, k < zs.length → (Lit.int .i64 (geti zs k)).wf = true
/-- k, k + 1, .. -/
def marks (k : Nat) (n : Nat) : List Int := (List.range n).map (fun j => ((k + j : Nat) : Int))
theorem marks_len (k n : Nat) : (marks k n).length = n := by simp [marks]
theorem marks_get (k n j : Nat) (h : j < n) : geti (marks k n) j = ((k + j : Nat) : Int) := by
  simp [marks, geti, List.getD_eq_getElem?_getD, h]

/-- A row of numbers at the head of block q. -/
def RowB (w : World) (q : Nat) (zs : List Int) : Prop := ∃ cs, Blk w q 3 cs ∧ zs.length ≤ cs.size ∧ ∀ k, k < zs.length → cs[k]? = some (.int .i64 (geti zs k))
section
variable {w w' : World} {q g : Nat} {zs : List Int}
theorem RowB.lt (h : RowB w q zs) : q < w.heap.size := by obtain ⟨_, h, _⟩ := h; exact h.lt
theorem RowB.below (h : RowB w q zs) (hb : Below w.heap.size w w') : RowB w' q zs := by
  obtain ⟨cs, h1, h2⟩ := h
  exact ⟨cs, h1.below hb h1.lt, h2⟩
theorem RowB.only (h : RowB w q zs) (ho : Only g w w') (hg : q ≠ g) : RowB w' q zs := by
  obtain ⟨cs, h1, h2⟩ := h
  exact ⟨cs, h1.only ho hg, h2⟩
theorem RowB.ints (h : RowB w q zs) (hn : zs.length ≤ 9223372036854775807) : IntsAt w (fun b => b = q) (some ⟨q, 0, none⟩) zs := by
  obtain ⟨cs, h1, _, h2⟩ := h
  exact ⟨hn, fun _ => ⟨q, 0, rfl, rfl, fun k hk => by rw [Nat.zero_add]; exact (h1.cell k).trans (h2 k hk)⟩⟩
theorem RowB.of_own {B c : Nat} (h : w.ownsRow B 3 1 (.slice (some ⟨q, 0, none⟩) zs.length c) zs.length (zs.map (Value.int .i64))) : RowB w q zs ∧ B ≤ q := by
  rcases h.2 with ⟨hv, _⟩ | ⟨q', cap, cur, hv, hb, hh, hcap, hmax, hcs, ht⟩
  · cases hv
  · cases hv
    refine ⟨⟨cur, hh, by omega, fun k hk => ?_⟩, hb⟩
    have h1 : cur.toList[k]? = (zs.map (Value.int .i64))[k]? := by rw [← ht, List.getElem?_take, if_pos (by omega)]
    rw [← Array.getElem?_toList, h1]
    simp [geti, List.getD_eq_getElem?_getD, List.getElem?_eq_getElem hk]
end
theorem szR_neg {left : Int} {n : Nat} (h : left < n) : szR left n = -1 := by unfold szR; rw [if_pos h]
theorem szR_pos {left : Int} {n : Nat} (h : ¬ left < n) : szR left n = left - n := by unfold szR; rw [if_neg h]

end Go.Proofs.Ytjendjbbhohjcaa
