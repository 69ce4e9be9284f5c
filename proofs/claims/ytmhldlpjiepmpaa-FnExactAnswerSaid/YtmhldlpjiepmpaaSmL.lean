/- Sums over a job's kids, kid by kid. -/
import Derived.Test.YtmhldlpjiepmpaaPoD
namespace Go.Proofs.Ytmhldlpjiepmpaa
open Go.RowKit

theorem leftN_take {dn : List Bool} {ks : List Int} {k : Nat} (h : k < ks.length) : leftN dn (ks.take (k + 1)) = leftN dn (ks.take k) + if getb dn (geti ks k).toNat then 0 else 1 := by
  unfold leftN
  rw [List.take_succ_eq_append_getElem h, List.countP_append, geti_eq h]
  cases hb : getb dn (ks[k]).toNat <;> simp [hb]
theorem sumF_take {dn : List Bool} {vl ks : List Int} {k : Nat} (h : k < ks.length) : sumF dn vl (ks.take (k + 1)) = if getb dn (geti ks k).toNat then wrap64 (sumF dn vl (ks.take k) + geti vl (geti ks k).toNat) else sumF dn vl (ks.take k) := by
  unfold sumF
  rw [List.take_succ_eq_append_getElem h, List.foldl_append, geti_eq h]
  rfl
theorem leftN_le (dn : List Bool) (ks : List Int) : leftN dn ks ≤ ks.length := List.countP_le_length

end Go.Proofs.Ytmhldlpjiepmpaa
