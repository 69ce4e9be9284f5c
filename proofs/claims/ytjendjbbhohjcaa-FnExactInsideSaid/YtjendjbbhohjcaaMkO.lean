/- laws.markOutcome of a row of one's own. -/
import Derived.Test.YtjendjbbhohjcaaMkI
import Derived.Test.YtjendjbbhohjcaaInnL
import Derived.Deep.DeepCutAuto
namespace Go.Proofs.Ytjendjbbhohjcaa
open Go.RowKit

theorem markIntIn {w : World} {lo hi n c : Nat} {A : Option Addr} {zs : List Int} {k : Int} (hz : zs.length = n) (hn : n ≤ 1048576) (h0 : 0 ≤ k) (h1 : k ≤ 4194304) (h : RvI 3 w lo hi (.slice A n c) n zs) :
    Calls Try.prog 35 #[.slice A n c, .int .i64 k] w fun e w' => e = .returned (.int .i64 (markZ k n)) ∧ RvI 3 w' lo hi (.slice A n c) n (marks k.toNat n) ∧ Inn lo hi w w' := by
  refine (markIntSI hz hn h0 h1 h).mono ?_
  rintro e w' ⟨rfl, hv, hg⟩
  exact ⟨rfl, hv, inn_grown hg (fun x hx => ⟨(h.1.own_lt hx).1, h.2 x hx⟩)⟩
set_option maxHeartbeats 800000 in
theorem markOutIn {w : World} {lo hi n c : Nat} {A : Option Addr} {zs : List Int} {k : Int} (hz : zs.length = n) (hn : n ≤ 1048576) (h0 : 0 ≤ k) (h1 : k ≤ 4194304) (h : RvI 3 w lo hi (.slice A n c) n zs) :
    Calls Try.prog 34 #[.agg #[.slice A n c], .int .i64 k] w fun e w' => e = .returned (.int .i64 (markZ k n)) ∧ Inn lo hi w w' := by
  have hb := below1 w (Obj.cells #[.slice A n c] 25)
  obtain ⟨W, hW⟩ : ∃ x, x = w.alloc (Obj.cells #[.slice A n c] 25) := ⟨_, rfl⟩
  rw [← hW] at hb
  have kM := hide (markIntIn hz hn h0 h1 (h.next hb))
  have hI := hide (Inn.of_below (lo := lo) (hi := hi) hb)
  have hX : W.cell? ⟨w.heap.size, 0, none⟩ = some (.slice A n c) := by rw [hW]; exact (Blk.new w 25 #[.slice A n c]).cell 0
  have hl : w.heap.size < W.heap.size := by rw [hW]; simp
  clear hb h hz
  go_enter Try.func34, Try.ntmps34
  go_upto_region 1 with fail
  rw [← hW]
  clear hW
  go_wp2_with fail
  refine kM.out.mono ?_
  rintro e w1 ⟨rfl, -, hi1⟩
  have hi2 := hide (hI.out.trans hi1)
  clear hi1
  go_wp2_with fail
  go_ret
  exact ⟨rfl, hi2.out⟩
end Go.Proofs.Ytjendjbbhohjcaa
