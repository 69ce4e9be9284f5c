/- impl.pieceOf over instructions, walked. -/
import Derived.Test.YtbchiiggfhdnkaaPieceD
namespace Go.Proofs.Ytbchiiggfhdnkaa
open Go.RowKit

theorem InsCells.cellAt {cs : Array Value} {o : Nat} {d : InsD} (h : InsCells cs o d) (r : Nat) (hr : r < 6) : cs[o + r]? = some (dcell d r) := by
  obtain ⟨h0, h1, h2, h3, h4, h5⟩ := h
  match r, hr with
  | 0, _ => simpa [dcell] using h0
  | 1, _ => simpa [dcell] using h1
  | 2, _ => simpa [dcell] using h2
  | 3, _ => simpa [dcell] using h3
  | 4, _ => simpa [dcell] using h4
  | 5, _ => simpa [dcell] using h5

theorem zero88 : Try.zeroCells160 = zeros144 := by kernel_rfl

set_option maxRecDepth 100000 in
set_option maxHeartbeats 1600000 in
theorem pieceD_any (A : Option Addr) (l : List InsD) (c f : Nat) (S : Nat → Prop) (w : World) (hc : l.length ≤ c) (hlen : l.length ≤ 1048576) (hf : f < l.length) (hS : ∀ b, S b → b < w.heap.size) (ha : InssAt w S A l) :
    Calls Try.prog 135 #[.slice A l.length c, .int .i64 f] w fun e w' => ∃ arr : Array Value, e = .returned (.agg arr) ∧ Hid (arr.size = 144 ∧ ∀ j, j < 24 → InsCells arr (j * 6) (pieceD l f j)) ∧ Below w.heap.size w w' := by
  have hne : ¬ c = f := by omega
  have hle : (f : Int) ≤ (l.length : Int) := by omega
  have hge : (0 : Int) ≤ (f : Int) := by omega
  obtain ⟨b, off, rfl, hbB, hcl⟩ := ha.2 (by omega)
  go_enter Try.func135, Try.ntmps135
  go_wp2_with fail
  have k1 := (Blk.new w 160 Try.zeroCells160).alloc (Obj.cells Try.zeroCells160 160)
  have k2 := Blk.new (w.alloc (Obj.cells Try.zeroCells160 160)) 160 Try.zeroCells160
  have hb2 := below2 w (Obj.cells Try.zeroCells160 160) (Obj.cells Try.zeroCells160 160)
  have hz2 : ((w.alloc (Obj.cells Try.zeroCells160 160)).alloc (Obj.cells Try.zeroCells160 160)).heap.size = w.heap.size + 1 + 1 := by simp
  simp only [World.size_alloc] at k2
  generalize (w.alloc (Obj.cells Try.zeroCells160 160)).alloc (Obj.cells Try.zeroCells160 160) = W at *
  rw [zero88] at k1 k2
  have hcl2 := fun k hk => (hcl k hk).keep (fun o => (bcell hb2).1 b o (hS b hbB))
  have hbd := hb2.drew
  have HC := hide hcl2
  have K1 : Hid (Blk W.drew w.heap.size 160 zeros144) := hide k1
  have K2 : Hid (Blk W.drew (w.heap.size + 1) 160 zeros144) := hide k2
  have HZ := hide hz2
  clear k1 k2 hcl hcl2 hz2 hb2
  go_still_tail 4, (by kernel_rfl)
  change wpList _ _ _ _ _ W.drew
  refine wpList_copy_sized rfl (.tmp 6) (.tmp 9) 98 98 rfl 24 6 Try.underlying98 (by kernel_rfl) (w.heap.size + 1) 24 24 ⟨b, off + f * 6, none⟩ (l.length - f) (c - f) rfl rfl zeros144 160 K2.out (pieceDL l f) (by rw [pieceDL_len]) ?_ ?_ ?_ w.heap.size w hbd (by omega) ?_
  · intro j v hj
    have hjl : j < (pieceDL l f).length := (List.getElem?_eq_some_iff.1 hj).1
    rw [pieceDL_len] at hjl
    have hm1 : Nat.min (l.length - f) 24 ≤ l.length - f := Nat.min_le_left _ _
    have hj2 : j / 6 < l.length - f := by
      have hjm := hjl
      generalize Nat.min (l.length - f) 24 = q at hjm hm1
      omega
    simp only [pieceDL, List.getElem?_map] at hj
    rw [List.getElem?_range hjl] at hj
    simp at hj
    subst hj
    rw [Addr.add_mid]
    have := (HC.out (f + j / 6) (by omega)).cell (j % 6) (by omega)
    rw [show off + (f + j / 6) * 6 + j % 6 = off + f * 6 + j by omega] at this
    exact this
  · rw [pieceDL_len, zeros144_size]; have := Nat.min_le_right (l.length - f) 24; have e : (l.length - f).min 24 ≤ 24 := this; omega
  · intro v hv
    simp only [pieceDL, List.mem_map] at hv
    obtain ⟨_, _, rfl⟩ := hv
    rfl
  intro w3 hk3 hb3 hoth hsz3
  have hk1 : Blk w3 w.heap.size 160 zeros144 := (hoth w.heap.size (by omega)).trans K1.out
  have hrow := pieceDL_row l f hf
  have hsz : (pieceDL l f ++ zeros144.toList.drop (pieceDL l f).length).toArray.size = 144 := by
    have := pieceDL_len l f
    have h2 : (pieceDL l f).length ≤ 144 := by rw [this]; have e : (l.length - f).min 24 ≤ 24 := Nat.min_le_right (l.length - f) 24; omega
    simp [zeros144_size]; omega
  have hone : ((pieceDL l f ++ zeros144.toList.drop (pieceDL l f).length).toArray).all (·.oneCell') = true := by
    rw [Array.all_eq_true]
    intro j hj
    have h1 := (hrow (j / 6) (by omega)).cellAt (j % 6) (by omega)
    rw [show j / 6 * 6 + j % 6 = j by omega, Array.getElem?_eq_getElem hj] at h1
    injection h1 with h1
    rw [h1]; rfl
  generalize (pieceDL l f ++ zeros144.toList.drop (pieceDL l f).length).toArray = R at *
  have HR := hide (And.intro hsz hrow)
  have HK3 := hide hk3
  have HK1 := hide hk1
  clear hrow hk3 hk1 hoth HC
  go_wp2_with (first | (refine wpList_load_row rfl 160 (.tmp 5) rfl (w.heap.size + 1) rfl _ R (0, 0) _ HK3.out Try.underlying160 rfl (by rw [hsz]; kernel_rfl) ?_) | (refine wpList_store_mid rfl 160 (.tmp 4) (.tmp 11) rfl w.heap.size 0 R rfl rfl (by rw [hsz]; exact there_blk HK1.out) (by rw [hsz]; kernel_rfl) hone ?_))
  have hfin := Blk.setCells R.toList 0 _ _ HK1.out
  rw [setMany_all R zeros144 (by rw [hsz]; rfl)] at hfin
  refine bodyPost_ret (v := .agg R) (results_cell_row Try.results135 _ _ w.heap.size _ R _ _ rfl hfin Try.underlying160 rfl (by rw [hsz]; kernel_rfl)) rfl ⟨R, rfl, HR, below_setCells (Nat.le_refl _) _ _ _ hb3⟩
end Go.Proofs.Ytbchiiggfhdnkaa
