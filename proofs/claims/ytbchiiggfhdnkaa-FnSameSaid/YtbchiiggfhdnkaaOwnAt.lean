/- A program that owns its rows, read. -/
import Derived.Test.YtbchiiggfhdnkaaBe
namespace Go.Proofs.Ytbchiiggfhdnkaa
open Go.RowKit

theorem own_ints {B : Nat} {w : World} {zs : List Int} {v : Value} (h : w.ownsRow B 3 1 v zs.length (zs.map (Value.int .i64))) : ∃ A c, v = .slice A zs.length c ∧ zs.length ≤ c ∧ IntsAt w (New B w.heap.size) A zs := by
  rcases h.2 with ⟨hv, hn⟩ | ⟨q, cap, cur, hv, hq, hh, hcap, hmax, hcs, ht⟩
  · exact ⟨none, 0, by rw [hn]; exact hv, by omega, by omega, fun hl => by omega⟩
  · have hmx : maxLen = 9223372036854775807 := rfl
    have hlt : q < w.heap.size := by
      rcases Nat.lt_or_ge q w.heap.size with hlt | hge
      · exact hlt
      · rw [Array.getElem?_eq_none hge] at hh; cases hh
    refine ⟨_, _, hv, hcap, by omega, fun _ => ⟨q, 0, rfl, ⟨hq, hlt⟩, fun k hk => ?_⟩⟩
    have h1 : cur.toList[k]? = (zs.map (Value.int .i64))[k]? := by rw [← ht, List.getElem?_take, if_pos (by omega)]
    rw [cell_of_row w q _ cur _ (0, 0) hh, Nat.zero_add, ← Array.getElem?_toList, h1]
    simp [geti, List.getD_eq_getElem?_getD, List.getElem?_eq_getElem hk]

theorem ProgOwn.at_ {w : World} {B : Nat} {zs : List Int} {v tv : Value} {ts : List (List InsD)} {vs : List Value} (h : ProgOwn w B zs v ts vs tv) : ProgAt w (New B w.heap.size) (.agg #[v, tv]) ⟨zs, ts⟩ := by
  obtain ⟨A, c, rfl, hc, hi⟩ := own_ints h.ints
  obtain ⟨A', c', rfl, hc'⟩ := own_form h.rows
  have hm : ts.length ≤ 9223372036854775807 := by
    have hmx : maxLen = 9223372036854775807 := rfl
    rcases h.rows.2 with ⟨hv, hn⟩ | ⟨q, cap, cur, hv, hq, hh, hcap, hmax, hcs, ht⟩ <;> omega
  refine ⟨A, c, A', c', rfl, ⟨hc, hc'⟩, hi, hm, fun hn => ?_⟩
  obtain ⟨b, c2, e, hb, hlt, hcl⟩ := rows_at h.rows hn
  cases e
  refine ⟨b, 0, rfl, ⟨hb, hlt⟩, fun k hk => ?_⟩
  obtain ⟨A3, c3, e3, hc3, hin⟩ := own_inss (h.thr k hk)
  refine ⟨A3, c3, ?_, hc3, hin.more (fun b hb => ⟨hb.2.1, hb.2.2⟩)⟩
  rw [Nat.zero_add, hcl k hk, e3]
end Go.Proofs.Ytbchiiggfhdnkaa
