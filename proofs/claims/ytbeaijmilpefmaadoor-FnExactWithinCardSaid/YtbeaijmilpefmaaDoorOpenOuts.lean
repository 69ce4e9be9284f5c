/- A row of laws.Outcome, opened. -/
import Derived.Test.YtbeaijmilpefmaaDoorOpenG
import Derived.Test.YtbeaijmilpefmaaDoorWithinD
namespace Go.Proofs.YtbeaijmilpefmaaDoor
open Go.RowKit Go.Joins Go.ChangeShapes Go.WideShapes Go.Deep

def OutR (w : World) (n : Nat) (r : RowD) (v : Value) : Prop := v = .slice r.A r.n r.c ∧ r.n ≤ 9223372036854775807 ∧ r.zs.length = r.n ∧ IntsAt w (Old n) r.A r.zs ∧ IntsWf r.zs
/-- What came in: of each outcome its head and, whatever its length, its numbers. -/
structure OutArg (w : World) (A : Option Addr) (src : List RowD) : Prop where
  len : src.length ≤ 9223372036854775807
  row : 0 < src.length → ∃ b off, A = some ⟨b, off, none⟩ ∧ Old w.heap.size b ∧ ∀ k, k < src.length → ∃ c0, w.cell? ⟨b, off + k, none⟩ = some c0 ∧ OutR w w.heap.size (getr src k) c0
def olens (rs : List RowD) : List Nat := rs.map (fun r => r.n)
theorem olens_len (rs : List RowD) : (olens rs).length = rs.length := by simp [olens]
theorem olens_get (rs : List RowD) (k : Nat) (hk : k < rs.length) : getl (olens rs) k = (getr rs k).n := by
  unfold getl olens getr
  rw [List.getD_eq_getElem?_getD, List.getD_eq_getElem?_getD, List.getElem?_map, List.getElem?_eq_getElem hk]
  rfl
theorem getl_sum (ls : List Nat) (k : Nat) (hk : k < ls.length) : getl ls k ≤ ls.sum := by
  have h1 := sumTo_succ ls k hk
  have h2 := sumTo_le ls (k + 1)
  unfold getl
  omega
theorem OutArg.heads {w : World} {A : Option Addr} {src : List RowD} (h : OutArg w A src) : HeadsAt w (Old w.heap.size) A (olens src) := by
  refine ⟨by rw [olens_len]; exact h.len, fun hp => ?_⟩
  rw [olens_len] at hp
  obtain ⟨b, off, e, hb, hc⟩ := h.row hp
  refine ⟨b, off, e, hb, fun k hk => ?_⟩
  rw [olens_len] at hk
  obtain ⟨c0, h1, h2, h3, -⟩ := hc k hk
  rw [olens_get _ _ hk]
  exact ⟨_, _, h2 ▸ h1, h3⟩
theorem wf_int64 {z : Int} (h : (Lit.int .i64 z).wf = true) : -9223372036854775808 ≤ z ∧ z ≤ 9223372036854775807 := by
  have e1 : IntKind.i64.min = -9223372036854775808 := rfl
  have e2 : IntKind.i64.max = 9223372036854775807 := rfl
  simp [Lit.wf, e1, e2] at h
  exact h
theorem OutArg.small {w : World} {A : Option Addr} {src : List RowD} (h : OutArg w A src) (hs : headSize (olens src) ≤ 1048576) : OutsAt w w.heap.size A src := by
  unfold headSize at hs
  rw [olens_len] at hs
  have hn : ∀ k, k < src.length → (getr src k).n ≤ 1048576 := fun k hk => by
    have := getl_sum (olens src) k (by rw [olens_len]; exact hk)
    rw [olens_get _ _ hk] at this
    omega
  refine ⟨⟨by omega, fun hp => ?_⟩, fun k hk => ?_, fun k hk => ?_⟩
  · obtain ⟨b, off, e, hb, hc⟩ := h.row hp
    refine ⟨b, off, e, hb, fun k hk => ?_⟩
    obtain ⟨c0, h1, h2, h3, h4, h5, -⟩ := hc k hk
    exact ⟨_, _, h2 ▸ h1, h5⟩
  · obtain ⟨b, off, e, hb, hc⟩ := h.row (by omega)
    obtain ⟨c0, h1, h2, h3, h4, h5, -⟩ := hc k hk
    exact ⟨h4, hn k hk⟩
  · obtain ⟨b, off, e, hb, hc⟩ := h.row (by omega)
    obtain ⟨c0, h1, h2, h3, h4, h5, h6⟩ := hc k hk
    exact fun j hj => wf_int64 (h6 j hj)
theorem cellsOfOutcomeR : Tryd.prog.cellsOf 31 = 1 := by kernel_rfl
theorem cellsOfIntR : Tryd.prog.cellsOf 3 = 1 := by kernel_rfl
set_option maxRecDepth 100000 in
theorem open_outcomes {H : Type} {enc : TypeId × Value → H} {W : World} {r : Reach} {b0 : Nat} {spare : Nat → Bool} {held : Bool} {v : Value} {d : DataW H} {p : List MemPlace} (hv : Value.okWide Tryd.prog W r b0 22 v) (h : DataW.Trod enc Tryd.prog W 0 spare held 22 v d p) :
    ∃ A src c, v = .slice A (src : List RowD).length c ∧ OutArg W A src := by
  obtain ⟨a1, len, cap, rfl⟩ := okWide_slice Tryd.underlying22 hv
  obtain ⟨fuel, hf⟩ := h
  obtain ⟨A, l, c, e, hc, hl, hr⟩ := trod_heads row0 (fun (r : RowD) (v : Value) => OutR W W.heap.size r v) Tryd.underlying22 Tryd.underlying31 (by kernel_rfl) cellsOfOutcomeR rfl (fun n c0 y0 hy => by
    obtain ⟨A, zs, c, rfl, _, hi, hw⟩ := trod_ints_wf Tryd.underlying29 Tryd.underlying3 cellsOfIntR hy
    exact ⟨⟨0, 0, A, zs.length, c, zs⟩, rfl, hi.1, rfl, hi, hw⟩) (by simpa [Value.cells] using hf)
  exact ⟨A, l, c, e, hl, hr⟩
end Go.Proofs.YtbeaijmilpefmaaDoor
