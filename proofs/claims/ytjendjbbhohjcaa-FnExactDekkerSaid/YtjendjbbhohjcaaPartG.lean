/- Parts in the making: rows of instructions in a row. -/
import Derived.Test.YtjendjbbhohjcaaDqP
import Derived.Test.YtjendjbbhohjcaaDqI0
namespace Go.Proofs.Ytjendjbbhohjcaa
open Go.RowKit

theorem Try.infoParts : (Try.prog.info? 43).map (fun i => (i.zero, i.size, i.bytes)) = some (some (.slice none 0 0), 1, 24) := by kernel_rfl
theorem own_blk {w : World} {B q n size : Nat} {e : TypeId} {cs : Array Value} (h : Blk w q e cs) (hB : B ≤ q) (hn : n ≤ 1000) (hs : cs.size = n * size) : w.ownsRow B e size (.slice (some ⟨q, 0, none⟩) n n) n cs.toList :=
  ⟨by simpa using hs, .inr ⟨_, n, cs, rfl, hB, h, Nat.le_refl _, by have : maxLen = 9223372036854775807 := rfl; omega, hs, List.take_of_length_le (by simp [hs])⟩⟩
/-- Parts in the making since the world W: a row of slices, each of a row of its own. -/
structure PartG (W : World) (v : Value) (ps : List (List InsD)) (us : List Value) (w : World) : Prop where
  rows : w.ownsRow W.heap.size 43 1 v ps.length us
  each : ∀ k, k < ps.length → w.ownsRow W.heap.size 89 6 (vat us k) (gett ps k).length (flat (gett ps k))
  low : Below W.heap.size W w
section
variable {W w w1 w2 : World} {v v' u : Value} {ps : List (List InsD)} {us : List Value} {l : List InsD}
theorem PartG.nil (W : World) : PartG W (.slice none 0 0) [] [] W := ⟨⟨rfl, .inl ⟨rfl, rfl⟩⟩, fun k hk => by simp at hk, Below.refl _ _⟩
theorem PartG.len (h : PartG W v ps us w) : us.length = ps.length := by simpa using h.rows.1
theorem PartG.next (h : PartG W v ps us w) (hb : Below w.heap.size w w1) : PartG W v ps us w1 :=
  ⟨own_keep h.rows (fun b _ hlt => hb.block b hlt), fun k hk => own_keep (h.each k hk) (fun b _ hlt => hb.block b hlt), h.low.trans (hb.mono h.low.size)⟩
/-- A part more. -/
theorem PartG.more (h : PartG W v ps us w) (hu : w.ownsRow W.heap.size 89 6 u l.length (flat l)) (ho : w1.ownsRow W.heap.size 43 1 v' (ps.length + 1) (us ++ [u])) (hg : w.grownBy w1 v.ownBlock) : PartG W v' (ps ++ [l]) (us ++ [u]) w1 := by
  have hl := h.len
  refine ⟨by simpa using ho, fun k hk => ?_, ?_⟩
  · simp only [List.length_append, List.length_singleton] at hk
    rw [vat_append, gett_append, hl]
    by_cases e : k < ps.length
    · rw [if_pos e, if_pos e]
      exact own_grown (h.each k e) hg (apart_type (h.each k e) h.rows (by decide))
    · rw [if_neg e, if_neg e, if_pos (by omega), if_pos (by omega)]
      exact own_grown hu hg (apart_type hu h.rows (by decide))
  · have hz := h.low.size
    exact ⟨hg.os.trans h.low.os, hg.tape.trans h.low.tape, hg.output.trans h.low.output, Nat.le_trans h.low.size hg.size, fun j hj => (hg.block j (by omega) (fun e => by have := (own_lt h.rows e.symm).1; omega)).trans (h.low.block j hj)⟩
theorem PartG.threads {A : Option Addr} {c : Nat} (h : PartG W (.slice A ps.length c) ps us w) (hn : ps.length ≤ 1000) : ThreadsAt w (Old w.heap.size) A ps := by
  refine ⟨by omega, fun hp => ?_⟩
  rcases h.rows.2 with ⟨_, h0⟩ | ⟨q, cap, cur, hv, hb, hh, hcap, hmax, hcs, ht⟩
  · omega
  · cases hv
    have hlt : q < w.heap.size := by
      rcases Nat.lt_or_ge q w.heap.size with hlt | hge
      · exact hlt
      · rw [Array.getElem?_eq_none hge] at hh; cases hh
    refine ⟨q, 0, rfl, hlt, fun k hk => ?_⟩
    have hl := h.len
    obtain ⟨A3, c3, e3, hc3, hin⟩ := own_inss (h.each k hk)
    refine ⟨A3, c3, ?_, hc3, hin.more (fun b hb => hb.2.2)⟩
    rw [cell_of_row w q _ cur _ (0, 0) hh, Nat.zero_add, ← Array.getElem?_toList]
    have h1 : cur.toList[k]? = us[k]? := by rw [← ht, List.getElem?_take, if_pos (by omega)]
    rw [h1, ← e3, vat, List.getD_eq_getElem?_getD, List.getElem?_eq_getElem (show k < us.length by omega)]
    rfl
end
end Go.Proofs.Ytjendjbbhohjcaa
