/- The drawn bytes, opened; their cursor. -/
import Derived.Test.YthgpifeljeldjaaCur
import Derived.Test.YthgpifeljeldjaaOpen
import Derived.OpenShut
import Derived.ProofKit
import Derived.Lib.SmallJoins
namespace Go.Proofs.Ythgpifeljeldjaa
open Go.RowKit

theorem Only.toBelow {B g : Nat} {a b : World} (h : Only g a b) (hg : B ≤ g) (ha : B ≤ a.heap.size) : Below B a b :=
  ⟨h.os, h.tape, h.output, h.size, fun k hk => h.block k (by omega) (by omega)⟩
theorem BytesAt.old {w w' : World} {B n : Nat} {A : Option Addr} (h : BytesAt w (Old B) A n) (hb : Below B w w') (hB : B ≤ w'.heap.size) : BytesAt w' (Old w'.heap.size) A n :=
  ⟨h.1, fun hn => by
    obtain ⟨b, off, e, hS, hc⟩ := h.2 hn
    refine ⟨b, off, e, Nat.lt_of_lt_of_le hS hB, fun k hk' => ?_⟩
    obtain ⟨u, h0, h1, h2⟩ := hc k hk'
    exact ⟨u, h0, h1, (hb.cell (p := ⟨b, off + k, none⟩) hS).trans h2⟩⟩
set_option maxHeartbeats 1600000 in
theorem l1New_any (A : Option Addr) (n c : Nat) (w : World) (hn : n ≤ c) (ha : BytesAt w (Old w.heap.size) A n) :
    Calls Try.prog 38 #[.slice A n c] w fun e w' => ∃ g, e = .returned (.pointer (some ⟨g, 0, none⟩)) ∧ w.heap.size ≤ g ∧ Cur w' g ∧ Below w.heap.size w w' := by
  have hm := ha.1
  go_enter Try.func38, Try.ntmps38
  go_wp2
  go_loop [3, 4] (fun h i => ∃ (k : Nat) (x : Int), k ≤ n ∧ i = .int .i64 k ∧ h = .int .i64 x) (fun _ i => n - (intOf i).toNat)
  case atStart => exact ⟨0, _, Nat.zero_le _, rfl, rfl⟩
  case round =>
    obtain ⟨k, x, hk, rfl, rfl⟩ := hrel
    by_cases hlt : k < n
    · have hlt' : (k : Int) < (n : Int) := by omega
      by_cases h4 : k < 4000
      · have h4' : (k : Int) < 4000 := by omega
        obtain ⟨b, off, rfl, hS, hc⟩ := ha.2 (by omega)
        obtain ⟨u, hu0, hu1, hcell⟩ := hc k hlt
        clear hc
        go_wp2
        go_round
        case rel => exact ⟨k + 1, _, by omega, by go_num, rfl⟩
        case measure => simp [intOf]; omega
      · have h4' : ¬ (k : Int) < 4000 := by omega
        go_wp2
        go_ret
        exact ⟨_, rfl, Nat.le_refl _, ⟨A, n, c, 0, x, Blk.new _ _ _, Nat.zero_le _, ha.keep (fun b o hS => (below1 w _).cell (p := ⟨b, o, none⟩) hS)⟩, below1 _ _⟩
    · obtain rfl : k = n := by omega
      go_wp2
      go_ret
      exact ⟨_, rfl, Nat.le_refl _, ⟨A, k, c, 0, x, Blk.new _ _ _, Nat.zero_le _, ha.keep (fun b o hS => (below1 w _).cell (p := ⟨b, o, none⟩) hS)⟩, below1 _ _⟩
end Go.Proofs.Ythgpifeljeldjaa

namespace Go.Proofs.Ythgpifeljeldjaa
open Go.RowKit Go.Joins Go.ChangeShapes Go.WideShapes Go.Deep Go.ChangeAt

theorem cellsOfByte : Try.prog.cellsOf 5 = 1 := by kernel_rfl

set_option maxRecDepth 100000 in
theorem open_code {H : Type} {enc : TypeId × Value → H} {W : World} {r : Reach} {b0 : Nat} {spare : Nat → Bool} {held : Bool} {v : Value} {d : DataW H} {p : List MemPlace} (hv : Value.okWide Try.prog W r b0 22 v) (h : DataW.Trod enc Try.prog W 0 spare held 22 v d p) :
    ∃ A n c, v = .slice A n c ∧ n ≤ c ∧ BytesAt W (Old W.heap.size) A n := by
  obtain ⟨a1, len, cap, rfl⟩ := okWide_slice Try.underlying22 hv
  obtain ⟨fuel, hf⟩ := h
  rcases open_ints Try.underlying22 Try.underlying5 cellsOfByte hf with ⟨hcs, _⟩ | ⟨a, len', cap', zs, hcs, _, hl, hm, hz, _, hcell, hwz⟩
  · simp [Value.cells] at hcs
    obtain ⟨rfl, rfl, rfl⟩ := hcs
    exact ⟨none, 0, 0, rfl, Nat.le_refl _, by omega, fun hn => by omega⟩
  · simp [Value.cells] at hcs
    obtain ⟨rfl, rfl, rfl⟩ := hcs
    unfold maxLen at hm
    refine ⟨some a, len, cap, rfl, hl, by omega, fun hp => ?_⟩
    have hlen : len ≤ zs.length := by rw [hz]; split <;> omega
    obtain ⟨b, off, rfl, hat⟩ := ints_at hcell (by omega)
    refine ⟨b, off, rfl, cell_lt (hat 0 (by omega)), fun k hk => ?_⟩
    have hw := hwz (zs.getD k 0) (by rw [List.getD_eq_getElem?_getD, List.getElem?_eq_getElem (by omega)]; exact List.getElem_mem _)
    simp [Lit.wf, IntKind.min, IntKind.max, IntKind.bits, IntKind.signed] at hw
    exact ⟨zs.getD k 0, by rw [List.getD_eq_getElem?_getD]; omega, by rw [List.getD_eq_getElem?_getD]; omega, hat k (by omega)⟩

end Go.Proofs.Ythgpifeljeldjaa
