/- The model's l9worker: is that number a worker's? -/
import Derived.Test.YtfnphnjadknoaaaMp0
import Derived.Test.YtfnphnjadknoaaaMp8
import Derived.Test.YtfnphnjadknoaaaMp34
namespace Go.Proofs.Ytfnphnjadknoaaa
open Go.RowKit

set_option maxHeartbeats 1600000 in
theorem ltake_no (f : Nat → Nat) (B g : Nat) (x : PV) (p : PoolD) (W : Nat) (w : World) (hW : W < p.dq.length) (hne : (getq p.dq W).length = 0) (h : BoxO w f B g x p) :
    Calls Try.prog 64 #[.pointer (some ⟨g, 0, none⟩), .int .i64 W] w fun e w' => e = .returned (.bool false) ∧ Below w.heap.size w w' := by
  obtain ⟨bD, oD, cD, hD, -, lbD, xh, zh⟩ := h.pool.rows.heads.one hW
  have hE := h.pool.rows.each W hW
  obtain ⟨A, c, hv⟩ := hE.form
  rw [hv, hne] at xh
  obtain ⟨⟨-, x1, -, -, -, -, -⟩, xl⟩ := box7 h.box
  rw [hD] at x1
  have hWl : (W : Int) < p.dq.length := by omega
  replace h := hide h
  replace hD := hide hD
  replace hv := hide hv
  replace hne := hide hne
  clear hE zh
  go_enter Try.func64, Try.ntmps64
  go_wp2_with fail
  go_ret
  exact ⟨rfl, Below.refl _ _⟩
end Go.Proofs.Ytfnphnjadknoaaa

namespace Go.Proofs.Ytfnphnjadknoaaa
open Go.RowKit

set_option maxHeartbeats 1600000 in
theorem lworker_any (g n c : Nat) (A : Option Addr) (W : Int) (w : World) (hg : w.cell? ⟨g, 1, none⟩ = some (.slice A n c)) :
    Calls Try.prog 55 #[.pointer (some ⟨g, 0, none⟩), .int .i64 W] w fun e w' => e = .returned (.bool (decide (0 ≤ W ∧ W < n))) ∧ Below w.heap.size w w' := by
  obtain ⟨res, hres⟩ : ∃ res, res = decide (0 ≤ W ∧ W < (n : Int)) := ⟨_, rfl⟩
  rw [← hres]
  replace hres := hide hres
  by_cases h0 : 0 ≤ W
  · by_cases h1 : W < (n : Int)
    · have hE : Hid (res = true) := hide (by rw [hres.out]; exact decide_eq_true ⟨h0, h1⟩)
      clear hres
      go_enter Try.func55, Try.ntmps55
      go_wp2_with fail
      go_ret
      exact ⟨ret_bool hE.out.symm, Below.refl _ _⟩
    · have hE : Hid (res = false) := hide (by rw [hres.out]; exact decide_eq_false (fun h => h1 h.2))
      clear hres
      go_enter Try.func55, Try.ntmps55
      go_wp2_with fail
      go_ret
      exact ⟨ret_bool hE.out.symm, Below.refl _ _⟩
  · have hE : Hid (res = false) := hide (by rw [hres.out]; exact decide_eq_false (fun h => h0 h.1))
    clear hres
    go_enter Try.func55, Try.ntmps55
    go_wp2_with fail
    go_ret
    exact ⟨ret_bool hE.out.symm, Below.refl _ _⟩
end Go.Proofs.Ytfnphnjadknoaaa
