/- commonOk of any state. -/
import Derived.Test.YtfkaacfeikmabaaMf0
import Derived.Test.YtfkaacfeikmabaaMf2
import Derived.Test.YtfkaacfeikmabaaMf19
import Derived.BigQuiet
import Derived.Deep.QuietTactic
import Derived.Deep.RegionHeld3
import Derived.Deep.DeepCutAuto
namespace Go.Proofs.Ytfkaacfeikmabaa
open Go.RowKit

set_option maxRecDepth 100000 in
set_option maxHeartbeats 12800000 in
theorem commonOk_any (A1 A2 A3 A4 : Option Addr) (n1 c1 c2 c3 c4 : Nat) (ts : List (List InsD)) (pcs : List Int) (rs : List RowD) (S : Nat → Prop) (w : World) (hS : ∀ b, S b → b < w.heap.size) (ht : ThreadsAt w S A2 ts) (hp : IntsAt w S A3 pcs) (hf : RowsAt w S A4 rs) :
    Calls Try.prog 102 #[.agg #[.slice A1 n1 c1, .slice A2 ts.length c2, .slice A3 pcs.length c3, .slice A4 rs.length c4]] w fun e w' => e = .returned (.bool (comB ts pcs rs)) ∧ Below w.heap.size w w' := by
  have hn := ht.1
  have hn3 := hp.1
  have hn4 := hf.1
  have hp := hide hp
  have hf := hide hf
  have ht := hide ht
  have K0 := hide (Blk.new w 135 #[.slice A1 n1 c1, .slice A2 ts.length c2, .slice A3 pcs.length c3, .slice A4 rs.length c4])
  have hb0 := hide (below1 w (Obj.cells #[.slice A1 n1 c1, .slice A2 ts.length c2, .slice A3 pcs.length c3, .slice A4 rs.length c4] 135))
  go_enter Try.func102, Try.ntmps102
  go_wp2_with fail
  obtain ⟨wq, hwq⟩ : ∃ wq, wq = w.alloc (Obj.cells #[.slice A1 n1 c1, .slice A2 ts.length c2, .slice A3 pcs.length c3, .slice A4 rs.length c4] 135) := ⟨_, rfl⟩
  rw [← hwq] at K0 hb0 ⊢
  clear hwq
  have H0 : Hid (Blk wq.drew w.heap.size 135 #[.slice A1 n1 c1, .slice A2 ts.length c2, .slice A3 pcs.length c3, .slice A4 rs.length c4]) := K0.out
  replace hb0 := hide hb0.out.drew
  by_cases hl : pcs.length = ts.length
  · have hl' : ((pcs.length : Int) != (ts.length : Int)) = false := by simp [hl]
    by_cases hl2 : rs.length = ts.length
    · have hl2' : ((rs.length : Int) != (ts.length : Int)) = false := by simp [hl2]
      have hle : ts.length ≤ pcs.length ∧ ts.length ≤ rs.length := by omega
      obtain ⟨hle1, hle2⟩ := hle
      replace hl := hide hl
      replace hl2 := hide hl2
      go_cut [18] (fun s18 wx => s18 = .bool false ∧ Blk wx w.heap.size 135 #[.slice A1 n1 c1, .slice A2 ts.length c2, .slice A3 pcs.length c3, .slice A4 rs.length c4] ∧ Below w.heap.size w wx)
      case first =>
        go_region_held3 (fun w' => w'.cell? ⟨w.heap.size, 0, none⟩ = some (.slice A1 n1 c1) ∧ w'.cell? ⟨w.heap.size, 1, none⟩ = some (.slice A2 ts.length c2) ∧ w'.cell? ⟨w.heap.size, 2, none⟩ = some (.slice A3 pcs.length c3) ∧ w'.cell? ⟨w.heap.size, 3, none⟩ = some (.slice A4 rs.length c4))
          (first | exact com4 H0.out | exact com4 K0.out | exact com4 H1.out | exact com4 H2.out)
          (first
          | (go_at_call 161; refine (comThreads_any _ _ _ _ _ _ _ _ _ _ _ _ _).mono ?_; rintro e w2 ⟨rfl, hb2⟩; have H2 := hide (H1.out.below hb2 H1.out.lt); have B2 := hide (below_then B1.out hb2))
          | (go_at_call 161; refine (comThreads_any _ _ _ _ _ _ _ _ _ _ _ _ _).mono ?_; rintro e w1 ⟨rfl, hb1⟩; have H1 := hide (H0.out.below hb1 H0.out.lt); have B1 := hide (below_then hb0.out hb1)))
        all_goals
          go_wp2_with fail
          go_meet
          exact ⟨by first | rfl | (rw [hl2']), H2.out, B2.out⟩
      case rest =>
        obtain ⟨rfl, K, hb⟩ := hcut
        obtain ⟨w3, rfl⟩ : ∃ w3 : World, w3 = wc := ⟨_, rfl⟩
        clear K0 hb0 H0
        obtain ⟨-, k1, -, -⟩ := com4 K
        have hlK := K.lt
        have K := hide K
        go_wp2_with fail
        go_loopw [23] (fun i wr => ∃ (k : Nat), k ≤ ts.length ∧ i = .int .i64 k ∧ Hid (∀ j, j < k → 0 ≤ geti pcs j ∧ geti pcs j ≤ ((gett ts j).length : Int) ∧ (getr rs j).n = 6) ∧ Hid (Blk wr w.heap.size 135 #[.slice A1 n1 c1, .slice A2 ts.length c2, .slice A3 pcs.length c3, .slice A4 rs.length c4]) ∧ Below w.heap.size w wr) (fun i _ => ts.length - (intOf i).toNat)
        case atStart => exact ⟨0, Nat.zero_le _, rfl, hide (fun j hj => by omega), K, hb⟩
        case round =>
          obtain ⟨k, hk, rfl, hdone, K5, hb5⟩ := hrel
          clear K hb k1
          by_cases hlt : k < ts.length
          · obtain ⟨b, off, rfl, hSb, hc⟩ := (ht.out.below hb5 hS).2 (by omega)
            obtain ⟨A', c', hcell, _, hth⟩ := hc k hlt
            have hn5 := hth.1
            clear hth
            obtain ⟨b2, off2, rfl, hSb2, hc2⟩ := (hp.out.below hb5 hS).2 (by omega)
            have hcell2 := hc2 k (by omega)
            obtain ⟨b3, off3, rfl, hSb3, hc3⟩ := (hf.out.below hb5 hS).2 (by omega)
            obtain ⟨A'', c'', hcell3, -⟩ := hc3 k (by omega)
            have hlt' : (k : Int) < (ts.length : Int) := by omega
            have hlt3 : (k : Int) < (pcs.length : Int) := by omega
            have hlt4 : (k : Int) < (rs.length : Int) := by omega
            have hk0 : (0 : Int) ≤ (k : Int) := by omega
            have hbl := Nat.lt_of_lt_of_le (hS b hSb) hb5.size
            obtain ⟨gn, hgn⟩ : ∃ gn, gn = (getr rs k).n := ⟨_, rfl⟩
            obtain ⟨gp, hgp⟩ : ∃ gp, gp = geti pcs k := ⟨_, rfl⟩
            obtain ⟨gl, hgl⟩ : ∃ gl, gl = (gett ts k).length := ⟨_, rfl⟩
            rw [← hgn] at hcell3
            rw [← hgp] at hcell2
            rw [← hgl] at hcell hn5
            have hbad := hide (fun (hx : ¬ (0 ≤ gp ∧ gp ≤ (gl : Int) ∧ gn = 6)) => (show comB ts pcs rs = false from by unfold comB; rw [allB_no hlt (by rw [decide_eq_false]; rw [← hgp, ← hgl, ← hgn]; exact hx)]; simp))
            have hgood := hide (fun (hx : 0 ≤ gp ∧ gp ≤ (gl : Int) ∧ gn = 6) => (show 0 ≤ geti pcs k ∧ geti pcs k ≤ ((gett ts k).length : Int) ∧ (getr rs k).n = 6 from by rw [← hgp, ← hgl, ← hgn]; exact hx))
            clear hgn hgp hgl
            have hR := hide (show CoRd w.heap.size wr.heap.size b2 b3 (off2 + k) (off3 + k) (.slice A1 n1 c1) (.slice (some ⟨b, off, none⟩) ts.length c2) (.slice (some ⟨b2, off2, none⟩) pcs.length c3) (.slice (some ⟨b3, off3, none⟩) rs.length c4) (.slice A' gl c') (.int .i64 gp) (.slice A'' gn c'') (wr.alloc (Obj.cells #[.slice A' gl c'] 99)) from
              ⟨K5.out.alloc _, Blk.new _ _ _, ⟨((below1 wr _).cell (p := ⟨b2, off2 + k, none⟩) (Nat.lt_of_lt_of_le (hS b2 hSb2) hb5.size)).trans hcell2, by simp only [World.size_alloc]; have := Nat.lt_of_lt_of_le (hS b2 hSb2) hb5.size; omega⟩, ⟨((below1 wr _).cell (p := ⟨b3, off3 + k, none⟩) (Nat.lt_of_lt_of_le (hS b3 hSb3) hb5.size)).trans hcell3, by simp only [World.size_alloc]; have := Nat.lt_of_lt_of_le (hS b3 hSb3) hb5.size; omega⟩⟩)
            have hb6 := hide (hb5.alloc hb5.size (Obj.cells #[.slice A' gl c'] 99))
            clear hc hc2 hc3 hcell2 hcell3
            go_wp2_with fail
            obtain ⟨wq, hwq⟩ : ∃ wq, wq = wr.alloc (Obj.cells #[.slice A' gl c'] 99) := ⟨_, rfl⟩
            rw [← hwq] at hR hb6 ⊢
            clear hwq
            generalize wr.heap.size = U at *
            have hRd := hide (hR.out.next (Below.refl _ _).drew)
            have hb7 := hide hb6.out.drew
            by_cases hx1 : gp < 0
            · have hE := hide (hbad.out (by omega))
              have hd1 : decide (gp < 0) = true := decide_eq_true hx1
              obtain ⟨q2, q3, q0, qp, qf⟩ := hR.out.cells
              go_quiet (fail)
              go_wp2_with fail
              go_ret
              exact ⟨ret_bool hE.out.symm, below_drewN hb6.out _⟩
            · have hd1 : decide (gp < 0) = false := decide_eq_false hx1
              by_cases hx2 : (gl : Int) < gp
              · have hE := hide (hbad.out (by omega))
                have hd2 : decide ((gl : Int) < gp) = true := decide_eq_true hx2
                obtain ⟨q2, q3, q0, qp, qf⟩ := hR.out.cells
                go_quiet (fail)
                go_wp2_with fail
                go_ret
                exact ⟨ret_bool hE.out.symm, below_drewN hb6.out _⟩
              · have hd2 : decide ((gl : Int) < gp) = false := decide_eq_false hx2
                go_cut [53] (fun s53 wx => s53 = .bool (!decide (gn = 6)) ∧ Blk wx w.heap.size 135 #[.slice A1 n1 c1, .slice (some ⟨b, off, none⟩) ts.length c2, .slice (some ⟨b2, off2, none⟩) pcs.length c3, .slice (some ⟨b3, off3, none⟩) rs.length c4] ∧ Below w.heap.size w wx)
                case first =>
                  go_region_held3 (fun w' => w'.cell? ⟨w.heap.size, 2, none⟩ = some (.slice (some ⟨b2, off2, none⟩) pcs.length c3) ∧ w'.cell? ⟨w.heap.size, 3, none⟩ = some (.slice (some ⟨b3, off3, none⟩) rs.length c4) ∧ w'.cell? ⟨U, 0, none⟩ = some (.slice A' gl c') ∧ w'.cell? ⟨b2, off2 + k, none⟩ = some (.int .i64 gp) ∧ w'.cell? ⟨b3, off3 + k, none⟩ = some (.slice A'' gn c''))
                    (first | exact hR.out.cells | exact hRd.out.cells | exact hR1.out.cells)
                    (first
                    | (go_at_call 119; refine (fileOk_any _ _ _ _).mono ?_; rintro e w8 ⟨rfl, hb8⟩; have hR1 := hide (hRd.out.next hb8); have B8 := hide (below_then hb7.out hb8)))
                  all_goals
                    go_wp2_with fail
                    go_meet
                    exact ⟨by first | rfl | (simp; done) | (trace_state; sorry), hR1.out.box, B8.out⟩
                case rest =>
                  obtain ⟨rfl, K9, hb9⟩ := hcut
                  by_cases hx3 : gn = 6
                  · have hd3 : (!decide (gn = 6)) = false := by simp [hx3]
                    have hok := hide (hgood.out ⟨by omega, by omega, hx3⟩)
                    rw [hd3]
                    go_wp2_with fail
                    go_roundw
                    case rel => exact ⟨k + 1, by omega, by go_num, hide (fun j hj => by
                      rcases Nat.lt_succ_iff_lt_or_eq.1 hj with h | rfl
                      · exact hdone.out j h
                      · exact hok.out), hide K9, hb9⟩
                    case measure => simp [intOf]; omega
                  · have hd3 : (!decide (gn = 6)) = true := by simp [hx3]
                    have hE := hide (hbad.out (by omega))
                    rw [hd3]
                    go_wp2_with fail
                    go_ret
                    exact ⟨ret_bool hE.out.symm, hb9⟩
          · obtain rfl : k = ts.length := by omega
            have hE := hide (show comB ts pcs rs = true from by unfold comB; rw [allB_yes (fun j hj => decide_eq_true (hdone.out j hj))]; simp [hl.out, hl2.out])
            go_wp2_with fail
            go_ret
            exact ⟨ret_bool hE.out.symm, hb5⟩
    · have hl2' : ((rs.length : Int) != (ts.length : Int)) = true := by rw [bne_iff_ne]; omega
      have hE := hide (show comB ts pcs rs = false from by unfold comB; simp [hl2])
      clear hl hl2
      go_cut [18] (fun s18 wx => s18 = .bool true ∧ Below w.heap.size w wx)
      case first =>
        go_region_held3 (fun w' => w'.cell? ⟨w.heap.size, 0, none⟩ = some (.slice A1 n1 c1) ∧ w'.cell? ⟨w.heap.size, 1, none⟩ = some (.slice A2 ts.length c2) ∧ w'.cell? ⟨w.heap.size, 2, none⟩ = some (.slice A3 pcs.length c3) ∧ w'.cell? ⟨w.heap.size, 3, none⟩ = some (.slice A4 rs.length c4))
          (first | exact com4 H0.out | exact com4 K0.out | exact com4 H1.out | exact com4 H2.out)
          (first
          | (go_at_call 161; refine (comThreads_any _ _ _ _ _ _ _ _ _ _ _ _ _).mono ?_; rintro e w2 ⟨rfl, hb2⟩; have H2 := hide (H1.out.below hb2 H1.out.lt); have B2 := hide (below_then B1.out hb2))
          | (go_at_call 161; refine (comThreads_any _ _ _ _ _ _ _ _ _ _ _ _ _).mono ?_; rintro e w1 ⟨rfl, hb1⟩; have H1 := hide (H0.out.below hb1 H0.out.lt); have B1 := hide (below_then hb0.out hb1)))
        all_goals
          go_wp2_with fail
          go_meet
          exact ⟨by first | rfl | (rw [hl2']), B2.out⟩
      case rest =>
        obtain ⟨rfl, hb⟩ := hcut
        go_wp2_with fail
        go_ret
        exact ⟨ret_bool hE.out.symm, hb⟩
  · have hl' : ((pcs.length : Int) != (ts.length : Int)) = true := by rw [bne_iff_ne]; omega
    have hE := hide (show comB ts pcs rs = false from by unfold comB; simp [hl])
    clear hl
    refine wp_region_held_drew (S := (fun w' => w'.cell? ⟨w.heap.size, 0, none⟩ = some (.slice A1 n1 c1) ∧ w'.cell? ⟨w.heap.size, 1, none⟩ = some (.slice A2 ts.length c2) ∧ w'.cell? ⟨w.heap.size, 2, none⟩ = some (.slice A3 pcs.length c3) ∧ w'.cell? ⟨w.heap.size, 3, none⟩ = some (.slice A4 rs.length c4))) (by kernel_rfl) ?_ (fun hHeld => ?_)
    · exact com4 H0.out
    refine wpAnyH_take (i := 0) (oi := { dst := some 5, op := Op.fieldAddr 135 (Operand.tmp 1) 1, type := 0, pos := "l02_state.go:101", after := #[], guard := none }) (v := ?_) rfl (by kernel_rfl) (by kernel_rfl) (by kernel_rfl) (fun _ _ _ h => h) (Or.inl ⟨by rfl, ?_⟩) hHeld ?_
    rotate_left
    · (intro wq hSw; (try dsimp only at hSw); first | (go_simp; done) | (go_simp; with_reducible rfl))
    try simp only [Act.put, qa, qb, qc]
    refine wpAnyH_take (i := 1) (oi := { dst := some 6, op := Op.load 22 (Operand.tmp 5), type := 22, pos := "l02_state.go:101", after := #[{ on := 0, ground := Ground.data }], guard := none }) (v := ?_) rfl (by kernel_rfl) (by kernel_rfl) (by kernel_rfl) (fun _ _ _ h => h) (Or.inl ⟨by rfl, ?_⟩) hHeld ?_
    rotate_left
    · (intro wq hSw; (try dsimp only at hSw); first | (go_simp; done) | (go_simp; with_reducible rfl))
    try simp only [Act.put, qa, qb, qc]
    refine wpAnyH_take (i := 2) (oi := { dst := some 7, op := Op.call { callee := Callee.builtin Builtin.len, args := #[Operand.tmp 6], argTypes := #[22] }, type := 3, pos := "l02_state.go:101", after := #[{ on := 1, ground := Ground.data }], guard := none }) (v := ?_) rfl (by kernel_rfl) (by kernel_rfl) (by kernel_rfl) (fun _ _ _ h => h) (Or.inl ⟨by rfl, ?_⟩) hHeld ?_
    rotate_left
    · (intro wq hSw; (try dsimp only at hSw); first | (go_simp; done) | (go_simp; with_reducible rfl))
    try simp only [Act.put, qa, qb, qc]
    refine wpAnyH_take (i := 3) (oi := { dst := some 8, op := Op.load 135 (Operand.tmp 1), type := 135, pos := "l02_state.go:101", after := #[], guard := none }) (v := ?_) rfl (by kernel_rfl) (by kernel_rfl) (by kernel_rfl) (fun _ _ _ h => h) (Or.inl ⟨by rfl, ?_⟩) hHeld ?_
    rotate_left
    · (intro wq hSw; (try dsimp only at hSw); first | (go_simp; done) | (go_simp; with_reducible rfl))
    try simp only [Act.put, qa, qb, qc]
    refine wpAnyH_ready (rs := [4]) (by kernel_rfl) (by simp) ?_
    refine AllReadyH.cons (o := { dst := some 9, op := Op.call { callee := Callee.value (Operand.func 161), args := #[Operand.tmp 8], argTypes := #[135] }, type := 3, pos := "l02_state.go:101", after := #[{ on := 3, ground := Ground.data }], guard := none }) rfl (fun K hK => ?_) AllReadyH.nil
    go_simp
    go_at_call 161; refine (comThreads_any _ _ _ _ _ _ _ _ _ _ _ _ _).mono ?_; rintro e w1 ⟨rfl, hb1⟩; have H1 := hide (H0.out.below hb1 H0.out.lt); have B1 := hide (below_then hb0.out hb1)
    refine hK.out _ _ ?_ (fun hHeldN => ?_)
    · exact com4 H1.out
    clear hK K hHeld
    have hHeld := hHeldN
    clear hHeldN
    try simp only [Act.put, qa, qb, qc]
    refine wpAnyH_take (i := 5) (oi := { dst := some 10, op := Op.binOp BinOp.neq 3 (Operand.tmp 7) (Operand.tmp 9) 3, type := 4, pos := "l02_state.go:101", after := #[{ on := 2, ground := Ground.data }, { on := 4, ground := Ground.data }], guard := none }) (v := ?_) rfl (by kernel_rfl) (by kernel_rfl) (by kernel_rfl) (fun _ _ _ h => h) (Or.inl ⟨by rfl, ?_⟩) hHeld ?_
    rotate_left
    · (intro wq hSw; (try dsimp only at hSw); first | (go_simp; done) | (go_simp; with_reducible rfl))
    try simp only [Act.put, qa, qb, qc]
    refine wpAnyH_take (i := 6) (oi := { dst := some 11, op := Op.move (Operand.tmp 10), type := 4, pos := "l02_state.go:101", after := #[{ on := 5, ground := Ground.data }, { on := 4, ground := Ground.chain }], guard := none }) (v := ?_) rfl (by kernel_rfl) (by kernel_rfl) (by kernel_rfl) (fun _ _ _ h => h) (Or.inl ⟨by rfl, ?_⟩) hHeld ?_
    rotate_left
    · (intro wq hSw; (try dsimp only at hSw); first | (go_simp; done) | (go_simp; with_reducible rfl))
    try simp only [Act.put, qa, qb, qc]
    refine wpAnyH_take (i := 7) (oi := { dst := some 12, op := Op.fieldAddr 135 (Operand.tmp 1) 2, type := 0, pos := "l02_state.go:101", after := #[{ on := 6, ground := Ground.guard }], guard := some (6, false) }) (v := undef) rfl (by kernel_rfl) (by kernel_rfl) (by kernel_rfl) (fun _ _ _ h => h) (Or.inr ⟨by rfl, rfl⟩) hHeld ?_
    try simp only [Act.put, qa, qb, qc]
    refine wpAnyH_take (i := 8) (oi := { dst := some 13, op := Op.load 44 (Operand.tmp 12), type := 44, pos := "l02_state.go:101", after := #[{ on := 7, ground := Ground.data }, { on := 6, ground := Ground.guard }], guard := some (6, false) }) (v := undef) rfl (by kernel_rfl) (by kernel_rfl) (by kernel_rfl) (fun _ _ _ h => h) (Or.inr ⟨by rfl, rfl⟩) hHeld ?_
    try simp only [Act.put, qa, qb, qc]
    refine wpAnyH_take (i := 9) (oi := { dst := some 14, op := Op.call { callee := Callee.builtin Builtin.len, args := #[Operand.tmp 13], argTypes := #[44] }, type := 3, pos := "l02_state.go:101", after := #[{ on := 8, ground := Ground.data }, { on := 6, ground := Ground.guard }], guard := some (6, false) }) (v := undef) rfl (by kernel_rfl) (by kernel_rfl) (by kernel_rfl) (fun _ _ _ h => h) (Or.inr ⟨by rfl, rfl⟩) hHeld ?_
    try simp only [Act.put, qa, qb, qc]
    refine wpAnyH_take (i := 10) (oi := { dst := some 15, op := Op.load 135 (Operand.tmp 1), type := 135, pos := "l02_state.go:101", after := #[{ on := 6, ground := Ground.guard }], guard := some (6, false) }) (v := undef) rfl (by kernel_rfl) (by kernel_rfl) (by kernel_rfl) (fun _ _ _ h => h) (Or.inr ⟨by rfl, rfl⟩) hHeld ?_
    try simp only [Act.put, qa, qb, qc]
    refine wpAnyH_take (i := 11) (oi := { dst := some 16, op := Op.call { callee := Callee.value (Operand.func 161), args := #[Operand.tmp 15], argTypes := #[135] }, type := 3, pos := "l02_state.go:101", after := #[{ on := 10, ground := Ground.data }, { on := 6, ground := Ground.chain }, { on := 6, ground := Ground.guard }], guard := some (6, false) }) (v := undef) rfl (by kernel_rfl) (by kernel_rfl) (by kernel_rfl) (fun _ _ _ h => h) (Or.inr ⟨by rfl, rfl⟩) hHeld ?_
    try simp only [Act.put, qa, qb, qc]
    refine wpAnyH_take (i := 12) (oi := { dst := some 17, op := Op.binOp BinOp.neq 3 (Operand.tmp 14) (Operand.tmp 16) 3, type := 4, pos := "l02_state.go:101", after := #[{ on := 9, ground := Ground.data }, { on := 11, ground := Ground.data }, { on := 6, ground := Ground.guard }], guard := some (6, false) }) (v := undef) rfl (by kernel_rfl) (by kernel_rfl) (by kernel_rfl) (fun _ _ _ h => h) (Or.inr ⟨by rfl, rfl⟩) hHeld ?_
    try simp only [Act.put, qa, qb, qc]
    refine wpAnyH_take (i := 13) (oi := { dst := some 18, op := Op.pick (Operand.tmp 11) (Operand.const (Value.bool true)) (Operand.tmp 17), type := 4, pos := "l02_state.go:101", after := #[{ on := 6, ground := Ground.data }, { on := 12, ground := Ground.data }], guard := none }) (v := ?_) rfl (by kernel_rfl) (by kernel_rfl) (by kernel_rfl) (fun _ _ _ h => h) (Or.inl ⟨by rfl, ?_⟩) hHeld ?_
    rotate_left
    · (intro wq hSw; (try dsimp only at hSw); first | (go_simp; done) | (go_simp; with_reducible rfl))
    try simp only [Act.put, qa, qb, qc]
    refine wpAnyH_done (by kernel_rfl) ?_ _
    go_wp2_with fail
    go_ret
    exact ⟨ret_bool hE.out.symm, B1.out⟩
end Go.Proofs.Ytfkaacfeikmabaa
