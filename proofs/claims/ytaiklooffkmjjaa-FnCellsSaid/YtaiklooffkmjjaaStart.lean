/- Start at KdBuf. -/
import Derived.Test.YtaiklooffkmjjaaKStart
import Derived.Test.YtaiklooffkmjjaaStO
import Derived.Test.YtaiklooffkmjjaaIPok
namespace Go.Proofs.Ytaiklooffkmjjaa
open Go.RowKit

attribute [local go_sem ↓] Go.wp_at_zero Go.wp_at_succ

section
variable {w0 w1 w w' : World} {n2 qp : Nat} {fv : Value} {fs : List Value}
theorem KsAt.far (h : KsAt w1 n2 qp fv fs w) (hk : ∀ k, w1.heap.size ≤ k → w'.heap[k]? = w.heap[k]?) (hb : Below w0.heap.size w0 w') (hle : w0.heap.size ≤ w1.heap.size) : KsAt w0 n2 qp fv fs w' :=
  ⟨⟨h.pcs.1.heap (hk _ h.pcs.2), Nat.le_trans hle h.pcs.2⟩, own_base (own_keep h.rows (fun b hb _ => hk b hb)) hle, fun u hu => by obtain ⟨q, e, h1, h2⟩ := h.files u hu; exact ⟨q, e, h1.heap (hk _ h2), Nat.le_trans hle h2⟩, hb⟩
end

set_option maxRecDepth 100000 in
set_option maxHeartbeats 6400000 in
theorem start_buf (p : ProgD) (A1 A2 : Option Addr) (c1 c2 : Nat) (w : World) (hB : progB p = true) (hn : p.ts.length ≤ 3) (hz : 0 < p.init.length) (hz2 : p.init.length ≤ 100) (hcc : p.init.length ≤ c1 ∧ p.ts.length ≤ c2) (hi : IntsAt w (Old w.heap.size) A1 p.init) (ht : ThreadsAt w (Old w.heap.size) A2 p.ts) :
    Calls Try.prog 43 #[.agg #[.slice A1 p.init.length c1, .slice A2 p.ts.length c2], .int .i64 1] w fun e w' => ∃ (qp : Nat) (A4 : Option Addr) (c4 : Nat) (fs : List Value) (qm cm qb : Nat), e = .returned (.tuple #[.agg #[.int .i64 1, .slice (some ⟨qp, 0, none⟩) p.ts.length p.ts.length, .slice A4 fs.length c4, .slice (some ⟨qm, 0, none⟩) p.init.length cm, .slice (some ⟨qb, 0, none⟩) p.ts.length p.ts.length, .slice none 0 0, .slice none 0 0, .slice none 0 0, .int .i64 0], .bool true]) ∧ fs.length = p.ts.length ∧ KsAt w p.ts.length qp (.slice A4 fs.length c4) fs w' ∧ (RowB w' qm p.init ∧ w.heap.size ≤ qm) ∧ Blk w' qb 134 (zrow #[.slice none 0 0] p.ts.length) ∧ w.heap.size ≤ qb := by
  have hb0 := below2 w (Obj.cells #[.slice A1 p.init.length c1, .slice A2 p.ts.length c2] 43) (Obj.cells #[Value.int IntKind.i64 0, Value.slice none 0 0, Value.slice none 0 0, Value.slice none 0 0, Value.slice none 0 0, Value.slice none 0 0, Value.slice none 0 0, Value.slice none 0 0, Value.int IntKind.i64 0] 77)
  have G0 := (Blk.new w 43 #[.slice A1 p.init.length c1, .slice A2 p.ts.length c2]).alloc (Obj.cells #[Value.int IntKind.i64 0, Value.slice none 0 0, Value.slice none 0 0, Value.slice none 0 0, Value.slice none 0 0, Value.slice none 0 0, Value.slice none 0 0, Value.slice none 0 0, Value.int IntKind.i64 0] 77)
  have K0 := Blk.new (w.alloc (Obj.cells #[.slice A1 p.init.length c1, .slice A2 p.ts.length c2] 43)) 77 #[Value.int IntKind.i64 0, Value.slice none 0 0, Value.slice none 0 0, Value.slice none 0 0, Value.slice none 0 0, Value.slice none 0 0, Value.slice none 0 0, Value.slice none 0 0, Value.int IntKind.i64 0]
  simp only [World.size_alloc] at K0
  have hok := hide (progOk_any (.agg #[.slice A1 p.init.length c1, .slice A2 p.ts.length c2]) p (Old w.heap.size) _ (fun b h => Nat.lt_of_lt_of_le h hb0.size) ⟨A1, c1, A2, c2, rfl, hcc, hi.below hb0 (fun _ h => h), ht.below hb0 (fun _ h => h)⟩)
  replace G0 := hide G0
  replace K0 := hide K0
  replace hb0 := hide hb0
  replace hi := hide hi
  clear ht
  go_enter Try.func43, Try.ntmps43
  go_wp2_with fail
  refine hok.out.mono ?_
  rintro e w1 ⟨rfl, hb1⟩
  rw [hB]
  have hB1 := hide (below_then hb0.out hb1)
  have hs1 := hb1.size
  simp only [World.size_alloc] at hs1
  have G1 := hide (G0.out.below hb1 G0.out.lt)
  have K1 := hide (K0.out.below hb1 K0.out.lt)
  have hI := hide ((hi.out.below hB1.out (fun _ h => h)).more (S' := Old w1.heap.size) (fun _ h => Nat.lt_of_lt_of_le h hB1.out.size))
  have g0 : w1.cell? ⟨w.heap.size, 0, none⟩ = some (.slice A1 p.init.length c1) := G1.out.cell 0
  have g1 : w1.cell? ⟨w.heap.size, 1, none⟩ = some (.slice A2 p.ts.length c2) := G1.out.cell 1
  clear hok hb1
  go_wp2_with fail
  refine (kindStart_buf A1 A2 p.init p.ts.length c1 c2 w1 hn hz hz2 hI.out).mono ?_
  rintro e w2 ⟨qp, fv, fs, qm, cm, qb, rfl, hfl, hK, hM, hQ, hqb⟩
  obtain ⟨A4, c4, rfl, -⟩ := own_form hK.rows
  replace hfl := hide hfl
  have hQl := hide (hQ.lt)
  have hMl := hide (hM.1.lt)
  replace hK := hide hK
  replace hM := hide hM
  replace hQ := hide hQ
  go_wp2_with fail
  refine (stateOf_buf A1 A2 (some ⟨qp, 0, none⟩) A4 (some ⟨qm, 0, none⟩) (some ⟨qb, 0, none⟩) _ _ _ _ _ _ _ _ _ _ _ _ w2).mono ?_
  rintro e w3 ⟨rfl, hb3⟩
  have hB3 := hide (below_then hK.out.below hb3)
  have hK3 := hide (hK.out.next hb3)
  have hM3 := hide (hM.out.1.below hb3)
  have hQ3 := hide (hQ.out.below hb3 hQl.out)
  have K3 := hide (K1.out.below hB3.out K1.out.lt)
  have hB4 := hide (below_then hB1.out hB3.out)
  have hs3 := hB3.out.size
  have k0 : w3.cell? ⟨w.heap.size + 1, 0, none⟩ = some (.int .i64 0) := K3.out.cell 0
  have k1 : w3.cell? ⟨w.heap.size + 1, 1, none⟩ = some (.slice none 0 0) := K3.out.cell 1
  have k2 : w3.cell? ⟨w.heap.size + 1, 2, none⟩ = some (.slice none 0 0) := K3.out.cell 2
  have k3 : w3.cell? ⟨w.heap.size + 1, 3, none⟩ = some (.slice none 0 0) := K3.out.cell 3
  have k4 : w3.cell? ⟨w.heap.size + 1, 4, none⟩ = some (.slice none 0 0) := K3.out.cell 4
  have k5 : w3.cell? ⟨w.heap.size + 1, 5, none⟩ = some (.slice none 0 0) := K3.out.cell 5
  have k6 : w3.cell? ⟨w.heap.size + 1, 6, none⟩ = some (.slice none 0 0) := K3.out.cell 6
  have k7 : w3.cell? ⟨w.heap.size + 1, 7, none⟩ = some (.slice none 0 0) := K3.out.cell 7
  have k8 : w3.cell? ⟨w.heap.size + 1, 8, none⟩ = some (.int .i64 0) := K3.out.cell 8
  have z0 := K3.out.frozen 0
  have z1 := K3.out.frozen 1
  have z2 := K3.out.frozen 2
  have z3 := K3.out.frozen 3
  have z4 := K3.out.frozen 4
  have z5 := K3.out.frozen 5
  have z6 := K3.out.frozen 6
  have z7 := K3.out.frozen 7
  have z8 := K3.out.frozen 8
  clear hb3 g0 g1
  go_wp2_with fail
  have hK2 := ((((((((K3.out.set_ 0 (.int .i64 1)).set_ 1 (.slice (some ⟨qp, 0, none⟩) p.ts.length p.ts.length)).set_ 2 (.slice A4 fs.length c4)).set_ 3 (.slice (some ⟨qm, 0, none⟩) p.init.length cm)).set_ 4 (.slice (some ⟨qb, 0, none⟩) p.ts.length p.ts.length)).set_ 5 (.slice none 0 0)).set_ 6 (.slice none 0 0)).set_ 7 (.slice none 0 0)).set_ 8 (.int .i64 0)
  have q0 := hK2.cell 0
  have q1 := hK2.cell 1
  have q2 := hK2.cell 2
  have q3 := hK2.cell 3
  have q4 := hK2.cell 4
  have q5 := hK2.cell 5
  have q6 := hK2.cell 6
  have q7 := hK2.cell 7
  have q8 := hK2.cell 8
  have hkeep : ∀ (u0 u1 u2 u3 u4 u5 u6 u7 u8 : Value) (k : Nat), k ≠ w.heap.size + 1 → (((((((((w3.setCell ⟨w.heap.size + 1, 0, none⟩ u0).setCell ⟨w.heap.size + 1, 1, none⟩ u1).setCell ⟨w.heap.size + 1, 2, none⟩ u2).setCell ⟨w.heap.size + 1, 3, none⟩ u3).setCell ⟨w.heap.size + 1, 4, none⟩ u4).setCell ⟨w.heap.size + 1, 5, none⟩ u5).setCell ⟨w.heap.size + 1, 6, none⟩ u6).setCell ⟨w.heap.size + 1, 7, none⟩ u7).setCell ⟨w.heap.size + 1, 8, none⟩ u8).heap[k]? = w3.heap[k]? := fun _ _ _ _ _ _ _ _ _ k hk => by
    iterate 9 (refine (Below.heap_setCell _ _ _ k hk).trans ?_)
    rfl
  replace hkeep := hide hkeep
  refine bodyPost_ret (v := .tuple #[.agg #[.int .i64 1, .slice (some ⟨qp, 0, none⟩) p.ts.length p.ts.length, .slice A4 fs.length c4, .slice (some ⟨qm, 0, none⟩) p.init.length cm, .slice (some ⟨qb, 0, none⟩) p.ts.length p.ts.length, .slice none 0 0, .slice none 0 0, .slice none 0 0, .int .i64 0], .bool true]) (by simp [results, Try.results43, go_sem, q0, q1, q2, q3, q4, q5, q6, q7, q8]; done) rfl ⟨qp, A4, c4, fs, qm, cm, qb, rfl, hfl.out, hK3.out.far (fun k hk => hkeep.out _ _ _ _ _ _ _ _ _ k (by omega)) ?_ (by omega), ⟨hM3.out.heap (hkeep.out _ _ _ _ _ _ _ _ _ _ (by have := hM.out.2; omega)), by have := hM.out.2; omega⟩, (hkeep.out _ _ _ _ _ _ _ _ _ _ (by omega)).trans hQ3.out, by omega⟩
  iterate 9 (refine Below.setCell ?_ (show w.heap.size ≤ w.heap.size + 1 by omega) _)
  exact hB4.out
end Go.Proofs.Ytaiklooffkmjjaa
