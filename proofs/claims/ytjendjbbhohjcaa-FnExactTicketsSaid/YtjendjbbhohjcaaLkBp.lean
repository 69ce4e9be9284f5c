/- The program's Tickets. -/
import Derived.Test.YtjendjbbhohjcaaLkA
import Derived.Test.YtjendjbbhohjcaaPartG
import Derived.Deep.RegionHeld3
namespace Go.Proofs.Ytjendjbbhohjcaa
open Go.RowKit

set_option maxRecDepth 100000 in
set_option maxHeartbeats 3200000 in
theorem ticketTry_any (t : Int) (w : World) (h0 : 0 ≤ t) (h3 : t ≤ 3) : Calls Try.prog 68 #[.int .i64 t] w fun e w' => InsR w w' e (tryL 0 (7 + t * 7)) := by
  have H := (GrowI.lit (l := tryL 0 (7 + t * 7)) w (cs := #[Value.int .i64 7, Value.int .i64 2, Value.int .i64 0, Value.int .i64 0, Value.int .i64 0, Value.int .i64 0, Value.int .i64 1, Value.int .i64 3, Value.int .i64 0, Value.int .i64 0, Value.int .i64 0, Value.int .i64 1, Value.int .i64 3, Value.int .i64 3, Value.int .i64 2, Value.int .i64 3, Value.int .i64 0, Value.int .i64 0, Value.int .i64 11, Value.int .i64 4, Value.int .i64 2, Value.int .i64 3, Value.int .i64 0, Value.int .i64 0, Value.int .i64 13, Value.int .i64 0, Value.int .i64 4, Value.int .i64 0, Value.int .i64 0, Value.int .i64 7, Value.int .i64 2, Value.int .i64 0, Value.int .i64 2, Value.int .i64 0, Value.int .i64 0, Value.int .i64 0, Value.int .i64 14, Value.int .i64 0, Value.int .i64 0, Value.int .i64 0, Value.int .i64 0, Value.int .i64 (7 + t * 7)]) (n := 7) (by omega) rfl rfl).ret (Below.refl _ _)
  replace H := hide H
  have hw1 : IntKind.i64.wrap (t * 7) = t * 7 := by rw [IntKind.wrap_i64]; omega
  have hw2 : IntKind.i64.wrap (7 + t * 7) = 7 + t * 7 := by rw [IntKind.wrap_i64]; omega
  go_enter Try.func68, Try.ntmps68
  go_wp2_with fail
  go_ret
  exact H.out
theorem tryL_small (k e : Int) (h1 : -1000 ≤ k ∧ k ≤ 1000) (h2 : -1000 ≤ e ∧ e ≤ 1000) : SmallN (tryL k e) := by unfold SmallN tryL; simp; omega
theorem ticPs_small (m : Nat) (hm : m ≤ 3 := by omega) : ∀ k, k < (ticPs m m).length → ∀ d ∈ gett (ticPs m m) k, -1000000 ≤ d.n ∧ d.n ≤ 1000000 := by
  intro k hk
  rw [ticPs_len] at hk
  rw [ticPs_get m m k hk]
  exact tryL_small _ _ (by omega) (by omega)
set_option maxRecDepth 100000 in
set_option maxHeartbeats 3200000 in
theorem ptic_no (z m : Int) (w : World) (hno : ticB z m = false) : Calls Try.prog 22 #[.int .i64 z, .int .i64 m] w fun e w' => FenR w w' e ⟨[], []⟩ false := by
  have hb : ¬ (1 ≤ z ∧ z ≤ 3 ∧ 1 ≤ m ∧ m ≤ 3) := of_decide_eq_false hno
  obtain ⟨W, hW⟩ : ∃ x, x = w.alloc (Obj.cells #[.slice none 0 0, .slice none 0 0] 37) := ⟨_, rfl⟩
  have hbW : Below w.heap.size w W := by rw [hW]; exact below1 _ _
  have hsW : w.heap.size + 1 ≤ W.heap.size := by rw [hW]; simp
  have R := hide (show Blk W w.heap.size 37 #[.slice none 0 0, .slice none 0 0] from by rw [hW]; exact Blk.new _ _ _)
  have BW := hide hbW
  clear hbW
  go_enter Try.func22, Try.ntmps22
  go_upto_region 1 with fail
  rw [← hW]
  clear hW
  obtain ⟨r0, r1⟩ := (show W.cell? ⟨w.heap.size, 0, none⟩ = some (Value.slice none 0 0) ∧ W.cell? ⟨w.heap.size, 1, none⟩ = some (Value.slice none 0 0) from ⟨R.out.cell 0, R.out.cell 1⟩)
  obtain ⟨r2, r3⟩ := (show W.frozen? ⟨w.heap.size, 0, none⟩ = false ∧ W.frozen? ⟨w.heap.size, 1, none⟩ = false from ⟨R.out.frozen 0, R.out.frozen 1⟩)
  have lR := R.out.lt
  have kO := fun w => threadsOk_any z w
  cases hz : thrB z
  · rw [hz] at kO
    replace kO := hide kO
    go_wp2_with (go_at_call 67; refine (kO.out _).mono ?_; rintro e wx ⟨rfl, rfl⟩)
    refine bodyPost_ret (v := .tuple #[.agg #[.slice none 0 0, .slice none 0 0], .bool false]) (by simp [results, Try.results22, go_sem, r0, r1]; done) rfl (FenR.no ?_)
    exact (BW.out.setCell (p := ⟨w.heap.size, 0, none⟩) (Nat.le_refl _) _).setCell (p := ⟨w.heap.size, 1, none⟩) (Nat.le_refl _) _
  · rw [hz] at kO
    replace kO := hide kO
    have hz2 : 1 ≤ z ∧ z ≤ 3 := of_decide_eq_true hz
    by_cases m1 : m < 1
    · have hdm1 : decide (m < 1) = true := decide_eq_true m1
      go_wp2_with (go_at_call 67; refine (kO.out _).mono ?_; rintro e wx ⟨rfl, rfl⟩)
      refine bodyPost_ret (v := .tuple #[.agg #[.slice none 0 0, .slice none 0 0], .bool false]) (by simp [results, Try.results22, go_sem, r0, r1]; done) rfl (FenR.no ?_)
      exact (BW.out.setCell (p := ⟨w.heap.size, 0, none⟩) (Nat.le_refl _) _).setCell (p := ⟨w.heap.size, 1, none⟩) (Nat.le_refl _) _
    · have hdm1 : decide (m < 1) = false := decide_eq_false m1
      have hdm3 : decide (3 < m) = true := decide_eq_true (by omega)
      go_wp2_with (go_at_call 67; refine (kO.out _).mono ?_; rintro e wx ⟨rfl, rfl⟩)
      refine bodyPost_ret (v := .tuple #[.agg #[.slice none 0 0, .slice none 0 0], .bool false]) (by simp [results, Try.results22, go_sem, r0, r1]; done) rfl (FenR.no ?_)
      exact (BW.out.setCell (p := ⟨w.heap.size, 0, none⟩) (Nat.le_refl _) _).setCell (p := ⟨w.heap.size, 1, none⟩) (Nat.le_refl _) _
set_option maxRecDepth 100000 in
set_option maxHeartbeats 12800000 in
theorem ptic_yes (N M : Nat) (w : World) (h1 : 1 ≤ N) (h3 : N ≤ 3) (m1 : 1 ≤ M) (m3 : M ≤ 3) : Calls Try.prog 22 #[.int .i64 N, .int .i64 M] w fun e w' => FenR w w' e ⟨[1], ticTs M N⟩ true := by
  obtain ⟨i2, hi2, hx0, hx1, hx2⟩ := info_parts Try.infoThr
  replace hi2 := hide hi2
  have kO := fun w => threadsOk_any (N : Int) w
  rw [show thrB (N : Int) = true from decide_eq_true (by omega)] at kO
  replace kO := hide kO
  obtain ⟨i3, hi3, hy0, hy1, hy2⟩ := info_parts Try.infoParts
  replace hi3 := hide hi3
  obtain ⟨W, hW⟩ : ∃ x, x = w.alloc (Obj.cells #[.slice none 0 0, .slice none 0 0] 37) := ⟨_, rfl⟩
  have hbW : Below w.heap.size w W := by rw [hW]; exact below1 _ _
  have hsW : w.heap.size + 1 ≤ W.heap.size := by rw [hW]; simp
  have R := hide (show Blk W w.heap.size 37 #[.slice none 0 0, .slice none 0 0] from by rw [hW]; exact Blk.new _ _ _)
  have BW := hide hbW
  clear hbW
  go_enter Try.func22, Try.ntmps22
  go_upto_region 1 with fail
  rw [← hW]
  clear hW
  obtain ⟨r0, r1⟩ := (show W.cell? ⟨w.heap.size, 0, none⟩ = some (Value.slice none 0 0) ∧ W.cell? ⟨w.heap.size, 1, none⟩ = some (Value.slice none 0 0) from ⟨R.out.cell 0, R.out.cell 1⟩)
  obtain ⟨r2, r3⟩ := (show W.frozen? ⟨w.heap.size, 0, none⟩ = false ∧ W.frozen? ⟨w.heap.size, 1, none⟩ = false from ⟨R.out.frozen 0, R.out.frozen 1⟩)
  have lR := R.out.lt
  have C4 := CrAt.start0 (w0 := w) (zs := [1]) (cs := #[.int .i64 1]) BW.out hsW ⟨_, _, R.out⟩ (by decide) rfl
  obtain ⟨w3, hw3⟩ : ∃ x, x = W.alloc (Obj.cells #[.int .i64 1] 3) := ⟨_, rfl⟩
  obtain ⟨w4, hw4⟩ : ∃ x, x = w3.alloc (Obj.cells #[.slice (some ⟨W.heap.size, 0, none⟩) 1 1, .slice none 0 0] 37) := ⟨_, rfl⟩
  have hd1 : decide ((N : Int) < 1) = false := decide_eq_false (by omega)
  have hd3 : decide (3 < (N : Int)) = false := decide_eq_false (by omega)
  have hdm1 : decide ((M : Int) < 1) = false := decide_eq_false (by omega)
  have hdm3 : decide (3 < (M : Int)) = false := decide_eq_false (by omega)
  obtain ⟨T, hT⟩ : ∃ x, x = W.heap.size + 1 := ⟨_, rfl⟩
  replace C4 := hide (show CrAt w T [1] (.slice (some ⟨W.heap.size, 0, none⟩) 1 1) (ticTs M 0) [] (.slice none 0 0) w4 from by rw [hT, hw4, hw3]; exact C4)
  obtain ⟨v, hv⟩ : ∃ x, x = Value.slice (some ⟨W.heap.size, 0, none⟩) 1 1 := ⟨_, rfl⟩
  rw [← hv] at C4
  go_upto_region 4 with (go_at_call 67; refine (kO.out _).mono ?_; rintro e wx ⟨rfl, rfl⟩)
  rw [← hw3, ← hw4, ← hT]
  obtain ⟨A0, hA0⟩ : ∃ A, A = some (⟨W.heap.size, 0, none⟩ : Addr) := ⟨_, rfl⟩
  rw [← hA0] at hv
  clear hw3 hw4 hT hA0 hd1 hd3 hdm1 hdm3 r0 r1 r2 r3 lR
  replace hv := hide hv
  go_wp2_with fail
  go_loopw [24] (fun i wr => ∃ (k : Nat) (vs : List Value) (tv : Value), k ≤ N ∧ i = .int .i64 k ∧ Hid (CrAt w T [1] v (ticTs M k) vs tv wr)) (fun i _ => N - (intOf i).toNat)
  case atStart => exact ⟨0, _, _, Nat.zero_le _, rfl, C4⟩
  case round =>
    clear C4
    obtain ⟨k, vs, tv, hk, rfl, C0⟩ := hrel
    by_cases hlt : k < N
    · have hlt' : decide ((k : Int) < (N : Int)) = true := decide_eq_true (by omega)
      have hkN : k < N := hlt
      have hstep := hide (ticTs_succ M k)
      obtain ⟨wo, rfl⟩ : ∃ x, x = wr := ⟨_, rfl⟩
      go_wp2_with fail
      go_loopw [7, 27] (fun t i wr => ∃ (j n : Nat) (A : Option Addr) (c : Nat) (us : List Value), j ≤ M ∧ i = .int .i64 j ∧ t = .slice A n c ∧ Hid (n = j) ∧ Hid (PartG wo (.slice A (ticPs M j).length c) (ticPs M j) us wr)) (fun _ i _ => M - (intOf i).toNat)
      case atStart => exact ⟨0, 0, none, 0, [], Nat.zero_le _, rfl, rfl, hide rfl, hide (PartG.nil wo)⟩
      case round =>
        obtain ⟨j, n, A1, c1, us, hj, rfl, rfl, hnk, H0⟩ := hrel
        by_cases hjl : j < M
        · have hjl' : decide ((j : Int) < (M : Int)) = true := decide_eq_true (by omega)
          have hjM : j < M := hjl
          have hw1 : IntKind.i64.wrap ((M : Int) - 1) = (M : Int) - 1 := by rw [IntKind.wrap_i64]; omega
          have hw2 : IntKind.i64.wrap ((M : Int) - 1 - (j : Int)) = (M : Int) - 1 - (j : Int) := by rw [IntKind.wrap_i64]; omega
          go_wp2_with fail
          refine (ticketTry_any ((M : Int) - 1 - (j : Int)) wr (by omega) (by omega)).mono ?_
          rintro e w1 hr
          rw [show tryL 0 (7 + ((M : Int) - 1 - (j : Int)) * 7) = tryL 0 (((7 * M : Nat) : Int) - ((7 * j : Nat) : Int)) from by congr 1; omega] at hr
          obtain ⟨A2, c2, rfl, ho, hb1⟩ := hr
          have H1 := hide (H0.out.next hb1)
          have O1 := hide (own_base ho H0.out.low.size)
          clear ho hb1 H0 hw1 hw2
          obtain ⟨l, hl⟩ : ∃ l, l = tryL 0 (((7 * M : Nat) : Int) - ((7 * j : Nat) : Int)) := ⟨_, rfl⟩
          rw [← hl] at O1 ⊢
          replace hl := hide hl
          have H2 := hide (H1.out.next (below1 w1 (Obj.cells #[Value.slice A2 l.length c2] 43)))
          have O2 := hide (own_keep O1.out (fun b _ hlt => (below1 w1 (Obj.cells #[Value.slice A2 l.length c2] 43)).block b hlt))
          have hsz := H1.out.low.size
          have hR : (w1.alloc (Obj.cells #[Value.slice A2 l.length c2] 43)).ownsRow wo.heap.size 43 1 (.slice A1 n c1) n us := by have := H2.out.rows; rw [ticPs_len, ← hnk.out] at this; exact this
          replace hR := hide hR
          have hn2 : n ≤ 3 := by rw [hnk.out]; omega
          go_wp2_with (at_builtin; refine wpList_append_lies _ rfl _ _ _ rfl wo.heap.size 43 i3 _ 1 24 Try.underlying90 hi3.out hy0 hy1 hy2 rfl (by omega) (.slice A1 n c1) n us rfl hR.out ⟨w1.heap.size, 0, none⟩ 1 1 [Value.slice A2 l.length c2] rfl rfl (World.news_of_block (cs := #[Value.slice A2 l.length c2]) (t := 43) (fr := (0, 0)) (heap_alloc_new _ _)) (by simp [Value.oneCell']) (by omega) (by have : maxLen = 9223372036854775807 := rfl; omega) (by omega) (by simp; omega) _ rfl ?_)
          intro g3 cap3 w3 hown3 hg3 hat3 hlt3
          have H3 := hide (H2.out.more (l := l) O2.out (by rw [ticPs_len, ← hnk.out]; exact hown3) (by rw [ticPs_len, ← hnk.out]; exact hg3))
          have H4 := hide (show PartG wo (.slice (some ⟨g3, 0, none⟩) (ticPs M (j + 1)).length cap3) (ticPs M (j + 1)) (us ++ [.slice A2 l.length c2]) w3 from by
            have := H3.out
            rw [hl.out, ← ticPs_succ, ← hl.out] at this
            rw [show (ticPs M (j + 1)).length = n + 1 from by rw [ticPs_len, hnk.out]]
            exact this)
          have hnk1 := hide (show n + 1 = j + 1 from by rw [hnk.out])
          clear hown3 hg3 hat3 hlt3 H1 H2 H3 O1 O2 hR hsz hl hnk
          go_wp2_with fail
          go_roundw
          case rel => exact ⟨j + 1, n + 1, _, _, _, by omega, by go_num, rfl, hnk1, H4⟩
          case measure => simp [intOf]; omega
        · have hjl' : decide ((j : Int) < (M : Int)) = false := decide_eq_false (by omega)
          have hjM : j = M := by omega
          have hN : n = (ticPs M M).length := by rw [ticPs_len]; exact hnk.out.trans hjM
          have hth : ThreadsAt wr (Old wr.heap.size) A1 (ticPs M M) := by
            have := H0.out.threads (by rw [ticPs_len]; omega)
            rw [hjM] at this
            exact this
          have HJ := joined_any A1 (ticPs M M) c1 (Old wr.heap.size) wr.drew (fun _ h => h) hth (by rw [ticPs_len, join_tic M M M (Nat.le_refl _), ticL_len]; omega) (ticPs_small M)
          rw [show joinTo (ticPs M M) (ticPs M M).length = ticL M M from by rw [ticPs_len]; exact join_tic M M M (Nat.le_refl _), ← hN] at HJ
          have BX := hide H0.out.low
          replace HJ := hide HJ
          clear hN hth H0 hnk hjM
          obtain ⟨A6, c6, htv, -⟩ := own_form C0.out.own.rows
          obtain ⟨m, hm⟩ : ∃ m, m = (ticTs M k).length := ⟨_, rfl⟩
          have hm3 : m ≤ 3 := by rw [hm, ticTs_len]; omega
          rw [← hm] at htv
          subst htv
          have hmH := hide hm
          clear hm
          have C1 := C0.out.next BX.out
          have t5 : wr.cell? ⟨T, 1, none⟩ = some (.slice A6 m c6) := C1.blk.cell 1
          have lT := hide C1.blk.lt
          clear C1
          go_upto_region 12 with fail
          refine wp_region_held_drew (S := (fun _ => True)) (by kernel_rfl) ?_ (fun hHeld => ?_)
          · exact trivial
          refine wpAnyH_take (i := 0) (oi := { dst := some 39, op := Op.fieldAddr 37 (Operand.tmp 6) 1, type := 0, pos := "l11_lock.go:180", after := #[], guard := none }) (v := ?_) rfl (by kernel_rfl) (by kernel_rfl) (by kernel_rfl) (fun _ _ _ h => h) (Or.inl ⟨by rfl, ?_⟩) hHeld ?_
          rotate_left
          · (intro wq hSw; (try dsimp only at hSw); first | (go_simp; done) | (go_simp; with_reducible rfl))
          try simp only [Act.put, List.setIfInBounds_toArray, List.set_cons_zero, List.set_cons_succ]
          refine wpAnyH_take (i := 2) (oi := { dst := some 41, op := Op.move (Operand.tmp 7), type := 90, pos := "l11_lock.go:180", after := #[], guard := none }) (v := ?_) rfl (by kernel_rfl) (by kernel_rfl) (by kernel_rfl) (fun _ _ _ h => h) (Or.inl ⟨by rfl, ?_⟩) hHeld ?_
          rotate_left
          · (intro wq hSw; (try dsimp only at hSw); first | (go_simp; done) | (go_simp; with_reducible rfl))
          try simp only [Act.put, List.setIfInBounds_toArray, List.set_cons_zero, List.set_cons_succ]
          refine wpAnyH_ready (rs := [1, 3]) (by kernel_rfl) (by simp) ?_
          refine AllReadyH.cons (o := { dst := some 40, op := Op.load 35 (Operand.tmp 39), type := 35, pos := "l11_lock.go:180", after := #[{ on := 0, ground := Ground.data }], guard := none }) rfl (fun K hK => ?_) (AllReadyH.cons (o := { dst := some 42, op := Op.call { callee := Callee.value (Operand.func 69), args := #[Operand.tmp 41], argTypes := #[90] }, type := 43, pos := "l11_lock.go:180", after := #[{ on := 2, ground := Ground.data }], guard := none }) rfl (fun K hK => ?_) (AllReadyH.nil))
          · go_simp
            refine hK.out _ _ ?_ (fun hHeldN => ?_)
            · exact trivial
            clear hK K hHeld
            have hHeld := hHeldN
            clear hHeldN
            try simp only [Act.put, List.setIfInBounds_toArray, List.set_cons_zero, List.set_cons_succ]
            refine wpAnyH_ready (rs := [3]) (by kernel_rfl) (by simp) ?_
            refine AllReadyH.cons (o := { dst := some 42, op := Op.call { callee := Callee.value (Operand.func 69), args := #[Operand.tmp 41], argTypes := #[90] }, type := 43, pos := "l11_lock.go:180", after := #[{ on := 2, ground := Ground.data }], guard := none }) rfl (fun K hK => ?_) (AllReadyH.nil)
            · go_simp
              go_at_call 69
              refine HJ.out.mono ?_
              rintro e w5 ⟨A5, c5, rfl, ho5, hb5⟩
              have hbb := hide (show Below wo.heap.size wo w5 from BX.out.trans (((Below.refl _ _).drew.trans hb5).mono BX.out.size))
              have ho5' := own_base ho5 (show wo.heap.size ≤ wr.drew.heap.size from BX.out.size)
              have L5 := hide (C0.out.lat hbb.out ho5')
              have L6 := hide (L5.out.alloc (Obj.cells #[(.slice A5 (ticL M M).length c5)] 45))
              have t6 : w5.cell? ⟨T, 1, none⟩ = some (.slice A6 m c6) := L5.out.cr.blk.cell 1
              have t7 : (w5.alloc (Obj.cells #[(.slice A5 (ticL M M).length c5)] 45)).cell? ⟨T, 1, none⟩ = some (.slice A6 m c6) := L6.out.cr.blk.cell 1
              have hR := hide (show (w5.alloc (Obj.cells #[(.slice A5 (ticL M M).length c5)] 45)).ownsRow (w.heap.size + 1) 45 1 (.slice A6 m c6) m vs from by rw [hmH.out]; rw [hmH.out] at L6; exact L6.out.cr.own.rows)
              have hsz : w.heap.size + 1 ≤ w5.heap.size := by have := L5.out.cr.blk.lt; have := L5.out.cr.lo; omega
              clear ho5 hb5 ho5'
              refine hK.out _ _ ?_ (fun hHeldN => ?_)
              · exact trivial
              clear hK K hHeld
              have hHeld := hHeldN
              clear hHeldN
              try simp only [Act.put, List.setIfInBounds_toArray, List.set_cons_zero, List.set_cons_succ]
              refine wpAnyH_take (i := 4) (oi := { dst := some 43, op := Op.build 45 #[(0, Operand.tmp 42)], type := 45, pos := "l11_lock.go:180", after := #[{ on := 3, ground := Ground.data }], guard := none }) (v := ?_) rfl (by kernel_rfl) (by kernel_rfl) (by kernel_rfl) (fun _ _ _ h => h) (Or.inl ⟨by rfl, ?_⟩) hHeld ?_
              rotate_left
              · (intro wq hSw; (try dsimp only at hSw); first | (go_simp; done) | (go_simp; with_reducible rfl))
              try simp only [Act.put, List.setIfInBounds_toArray, List.set_cons_zero, List.set_cons_succ]
              refine wpAnyH_ready (rs := [5]) (by kernel_rfl) (by simp) ?_
              refine AllReadyH.cons (o := { dst := some 44, op := Op.buildSlice 35 1 #[(0, Operand.tmp 43)], type := 35, pos := "l11_lock.go:180", after := #[{ on := 4, ground := Ground.data }], guard := none }) rfl (fun K hK => ?_) (AllReadyH.nil)
              · go_simp
                refine hK.out _ _ ?_ (fun hHeldN => ?_)
                · exact trivial
                clear hK K hHeld
                have hHeld := hHeldN
                clear hHeldN
                try simp only [Act.put, List.setIfInBounds_toArray, List.set_cons_zero, List.set_cons_succ]
                refine wpAnyH_ready (rs := [6]) (by kernel_rfl) (by simp) ?_
                refine AllReadyH.cons (o := { dst := some 45, op := Op.call { callee := Callee.builtin Builtin.append, args := #[Operand.tmp 40, Operand.tmp 44], argTypes := #[35, 35] }, type := 35, pos := "l11_lock.go:180", after := #[{ on := 1, ground := Ground.data }, { on := 5, ground := Ground.data }, { on := 3, ground := Ground.chain }], guard := none }) rfl (fun K hK => ?_) (AllReadyH.nil)
                · rw [if_pos (by rfl)]
                  refine wp_append_lies _ _ _ _ (by rfl) (w.heap.size + 1) 45 i2 _ 1 24 Try.underlying35 hi2.out hx0 hx1 hx2 rfl (by omega) (.slice A6 m c6) m vs (by rfl) hR.out ⟨w5.heap.size, 0, none⟩ 1 1 [(.slice A5 (ticL M M).length c5)] (by rfl) (by rfl) (World.news_of_block (cs := #[(.slice A5 (ticL M M).length c5)]) (heap_alloc_new _ _)) (by simp [Value.oneCell']) (by omega) (by have : maxLen = 9223372036854775807 := rfl; omega) (by omega) (by simp; omega) _ rfl ?_
                  intro g7 cap7 w7 hown7 hgr7 hat7 hlt7
                  obtain ⟨⟨⟨s0, s1⟩, s2, s3⟩, hC7⟩ := L6.out.growRows rfl (by rw [← hmH.out]; exact hown7) hgr7
                  have C7 := hide hC7
                  have lT7 : T < w7.heap.size := by have := C7.out.blk.lt; simpa using this
                  clear hown7 hgr7 hat7 hC7
                  refine hK.out _ _ ?_ (fun hHeldN => ?_)
                  · exact trivial
                  clear hK K hHeld
                  have hHeld := hHeldN
                  clear hHeldN
                  try simp only [Act.put, List.setIfInBounds_toArray, List.set_cons_zero, List.set_cons_succ]
                  refine wpAnyH_take (i := 7) (oi := { dst := some 46, op := Op.fieldAddr 37 (Operand.tmp 6) 1, type := 0, pos := "l11_lock.go:180", after := #[{ on := 0, ground := Ground.phase }, { on := 1, ground := Ground.phase }, { on := 2, ground := Ground.phase }, { on := 3, ground := Ground.phase }, { on := 4, ground := Ground.phase }, { on := 5, ground := Ground.phase }, { on := 6, ground := Ground.phase }], guard := none }) (v := ?_) rfl (by kernel_rfl) (by kernel_rfl) (by kernel_rfl) (fun _ _ _ h => h) (Or.inl ⟨by rfl, ?_⟩) hHeld ?_
                  rotate_left
                  · (intro wq hSw; (try dsimp only at hSw); first | (go_simp; done) | (go_simp; with_reducible rfl))
                  try simp only [Act.put, List.setIfInBounds_toArray, List.set_cons_zero, List.set_cons_succ]
                  refine wpAnyH_ready (rs := [8]) (by kernel_rfl) (by simp) ?_
                  refine AllReadyH.cons (o := { dst := none, op := Op.store 35 (Operand.tmp 46) (Operand.tmp 45), type := 0, pos := "l11_lock.go:180", after := #[{ on := 7, ground := Ground.data }, { on := 6, ground := Ground.data }, { on := 6, ground := Ground.chain }, { on := 0, ground := Ground.phase }, { on := 1, ground := Ground.phase }, { on := 2, ground := Ground.phase }, { on := 3, ground := Ground.phase }, { on := 4, ground := Ground.phase }, { on := 5, ground := Ground.phase }, { on := 6, ground := Ground.phase }], guard := none }) rfl (fun K hK => ?_) (AllReadyH.nil)
                  · go_simp
                    refine hK.out _ _ ?_ (fun hHeldN => ?_)
                    · exact trivial
                    clear hK K hHeld
                    have hHeld := hHeldN
                    clear hHeldN
                    try simp only [Act.put, List.setIfInBounds_toArray, List.set_cons_zero, List.set_cons_succ]
                    refine wpAnyH_done (by kernel_rfl) ?_ _
                    go_wp2_with fail
                    go_roundw
                    case rel => exact ⟨k + 1, _, _, by omega, by go_num, hide (by rw [hstep.out]; exact C7.out)⟩
                    case measure => simp [intOf]; omega
          · go_simp
            go_at_call 69
            refine HJ.out.mono ?_
            rintro e w5 ⟨A5, c5, rfl, ho5, hb5⟩
            have hbb := hide (show Below wo.heap.size wo w5 from BX.out.trans (((Below.refl _ _).drew.trans hb5).mono BX.out.size))
            have ho5' := own_base ho5 (show wo.heap.size ≤ wr.drew.heap.size from BX.out.size)
            have L5 := hide (C0.out.lat hbb.out ho5')
            have L6 := hide (L5.out.alloc (Obj.cells #[(.slice A5 (ticL M M).length c5)] 45))
            have t6 : w5.cell? ⟨T, 1, none⟩ = some (.slice A6 m c6) := L5.out.cr.blk.cell 1
            have t7 : (w5.alloc (Obj.cells #[(.slice A5 (ticL M M).length c5)] 45)).cell? ⟨T, 1, none⟩ = some (.slice A6 m c6) := L6.out.cr.blk.cell 1
            have hR := hide (show (w5.alloc (Obj.cells #[(.slice A5 (ticL M M).length c5)] 45)).ownsRow (w.heap.size + 1) 45 1 (.slice A6 m c6) m vs from by rw [hmH.out]; rw [hmH.out] at L6; exact L6.out.cr.own.rows)
            have hsz : w.heap.size + 1 ≤ w5.heap.size := by have := L5.out.cr.blk.lt; have := L5.out.cr.lo; omega
            clear ho5 hb5 ho5'
            refine hK.out _ _ ?_ (fun hHeldN => ?_)
            · exact trivial
            clear hK K hHeld
            have hHeld := hHeldN
            clear hHeldN
            try simp only [Act.put, List.setIfInBounds_toArray, List.set_cons_zero, List.set_cons_succ]
            refine wpAnyH_take (i := 4) (oi := { dst := some 43, op := Op.build 45 #[(0, Operand.tmp 42)], type := 45, pos := "l11_lock.go:180", after := #[{ on := 3, ground := Ground.data }], guard := none }) (v := ?_) rfl (by kernel_rfl) (by kernel_rfl) (by kernel_rfl) (fun _ _ _ h => h) (Or.inl ⟨by rfl, ?_⟩) hHeld ?_
            rotate_left
            · (intro wq hSw; (try dsimp only at hSw); first | (go_simp; done) | (go_simp; with_reducible rfl))
            try simp only [Act.put, List.setIfInBounds_toArray, List.set_cons_zero, List.set_cons_succ]
            refine wpAnyH_ready (rs := [1, 5]) (by kernel_rfl) (by simp) ?_
            refine AllReadyH.cons (o := { dst := some 40, op := Op.load 35 (Operand.tmp 39), type := 35, pos := "l11_lock.go:180", after := #[{ on := 0, ground := Ground.data }], guard := none }) rfl (fun K hK => ?_) (AllReadyH.cons (o := { dst := some 44, op := Op.buildSlice 35 1 #[(0, Operand.tmp 43)], type := 35, pos := "l11_lock.go:180", after := #[{ on := 4, ground := Ground.data }], guard := none }) rfl (fun K hK => ?_) (AllReadyH.nil))
            · go_simp
              refine hK.out _ _ ?_ (fun hHeldN => ?_)
              · exact trivial
              clear hK K hHeld
              have hHeld := hHeldN
              clear hHeldN
              try simp only [Act.put, List.setIfInBounds_toArray, List.set_cons_zero, List.set_cons_succ]
              refine wpAnyH_ready (rs := [5]) (by kernel_rfl) (by simp) ?_
              refine AllReadyH.cons (o := { dst := some 44, op := Op.buildSlice 35 1 #[(0, Operand.tmp 43)], type := 35, pos := "l11_lock.go:180", after := #[{ on := 4, ground := Ground.data }], guard := none }) rfl (fun K hK => ?_) (AllReadyH.nil)
              · go_simp
                refine hK.out _ _ ?_ (fun hHeldN => ?_)
                · exact trivial
                clear hK K hHeld
                have hHeld := hHeldN
                clear hHeldN
                try simp only [Act.put, List.setIfInBounds_toArray, List.set_cons_zero, List.set_cons_succ]
                refine wpAnyH_ready (rs := [6]) (by kernel_rfl) (by simp) ?_
                refine AllReadyH.cons (o := { dst := some 45, op := Op.call { callee := Callee.builtin Builtin.append, args := #[Operand.tmp 40, Operand.tmp 44], argTypes := #[35, 35] }, type := 35, pos := "l11_lock.go:180", after := #[{ on := 1, ground := Ground.data }, { on := 5, ground := Ground.data }, { on := 3, ground := Ground.chain }], guard := none }) rfl (fun K hK => ?_) (AllReadyH.nil)
                · rw [if_pos (by rfl)]
                  refine wp_append_lies _ _ _ _ (by rfl) (w.heap.size + 1) 45 i2 _ 1 24 Try.underlying35 hi2.out hx0 hx1 hx2 rfl (by omega) (.slice A6 m c6) m vs (by rfl) hR.out ⟨w5.heap.size, 0, none⟩ 1 1 [(.slice A5 (ticL M M).length c5)] (by rfl) (by rfl) (World.news_of_block (cs := #[(.slice A5 (ticL M M).length c5)]) (heap_alloc_new _ _)) (by simp [Value.oneCell']) (by omega) (by have : maxLen = 9223372036854775807 := rfl; omega) (by omega) (by simp; omega) _ rfl ?_
                  intro g7 cap7 w7 hown7 hgr7 hat7 hlt7
                  obtain ⟨⟨⟨s0, s1⟩, s2, s3⟩, hC7⟩ := L6.out.growRows rfl (by rw [← hmH.out]; exact hown7) hgr7
                  have C7 := hide hC7
                  have lT7 : T < w7.heap.size := by have := C7.out.blk.lt; simpa using this
                  clear hown7 hgr7 hat7 hC7
                  refine hK.out _ _ ?_ (fun hHeldN => ?_)
                  · exact trivial
                  clear hK K hHeld
                  have hHeld := hHeldN
                  clear hHeldN
                  try simp only [Act.put, List.setIfInBounds_toArray, List.set_cons_zero, List.set_cons_succ]
                  refine wpAnyH_take (i := 7) (oi := { dst := some 46, op := Op.fieldAddr 37 (Operand.tmp 6) 1, type := 0, pos := "l11_lock.go:180", after := #[{ on := 0, ground := Ground.phase }, { on := 1, ground := Ground.phase }, { on := 2, ground := Ground.phase }, { on := 3, ground := Ground.phase }, { on := 4, ground := Ground.phase }, { on := 5, ground := Ground.phase }, { on := 6, ground := Ground.phase }], guard := none }) (v := ?_) rfl (by kernel_rfl) (by kernel_rfl) (by kernel_rfl) (fun _ _ _ h => h) (Or.inl ⟨by rfl, ?_⟩) hHeld ?_
                  rotate_left
                  · (intro wq hSw; (try dsimp only at hSw); first | (go_simp; done) | (go_simp; with_reducible rfl))
                  try simp only [Act.put, List.setIfInBounds_toArray, List.set_cons_zero, List.set_cons_succ]
                  refine wpAnyH_ready (rs := [8]) (by kernel_rfl) (by simp) ?_
                  refine AllReadyH.cons (o := { dst := none, op := Op.store 35 (Operand.tmp 46) (Operand.tmp 45), type := 0, pos := "l11_lock.go:180", after := #[{ on := 7, ground := Ground.data }, { on := 6, ground := Ground.data }, { on := 6, ground := Ground.chain }, { on := 0, ground := Ground.phase }, { on := 1, ground := Ground.phase }, { on := 2, ground := Ground.phase }, { on := 3, ground := Ground.phase }, { on := 4, ground := Ground.phase }, { on := 5, ground := Ground.phase }, { on := 6, ground := Ground.phase }], guard := none }) rfl (fun K hK => ?_) (AllReadyH.nil)
                  · go_simp
                    refine hK.out _ _ ?_ (fun hHeldN => ?_)
                    · exact trivial
                    clear hK K hHeld
                    have hHeld := hHeldN
                    clear hHeldN
                    try simp only [Act.put, List.setIfInBounds_toArray, List.set_cons_zero, List.set_cons_succ]
                    refine wpAnyH_done (by kernel_rfl) ?_ _
                    go_wp2_with fail
                    go_roundw
                    case rel => exact ⟨k + 1, _, _, by omega, by go_num, hide (by rw [hstep.out]; exact C7.out)⟩
                    case measure => simp [intOf]; omega
            · go_simp
              refine hK.out _ _ ?_ (fun hHeldN => ?_)
              · exact trivial
              clear hK K hHeld
              have hHeld := hHeldN
              clear hHeldN
              try simp only [Act.put, List.setIfInBounds_toArray, List.set_cons_zero, List.set_cons_succ]
              refine wpAnyH_ready (rs := [1]) (by kernel_rfl) (by simp) ?_
              refine AllReadyH.cons (o := { dst := some 40, op := Op.load 35 (Operand.tmp 39), type := 35, pos := "l11_lock.go:180", after := #[{ on := 0, ground := Ground.data }], guard := none }) rfl (fun K hK => ?_) (AllReadyH.nil)
              · go_simp
                refine hK.out _ _ ?_ (fun hHeldN => ?_)
                · exact trivial
                clear hK K hHeld
                have hHeld := hHeldN
                clear hHeldN
                try simp only [Act.put, List.setIfInBounds_toArray, List.set_cons_zero, List.set_cons_succ]
                refine wpAnyH_ready (rs := [6]) (by kernel_rfl) (by simp) ?_
                refine AllReadyH.cons (o := { dst := some 45, op := Op.call { callee := Callee.builtin Builtin.append, args := #[Operand.tmp 40, Operand.tmp 44], argTypes := #[35, 35] }, type := 35, pos := "l11_lock.go:180", after := #[{ on := 1, ground := Ground.data }, { on := 5, ground := Ground.data }, { on := 3, ground := Ground.chain }], guard := none }) rfl (fun K hK => ?_) (AllReadyH.nil)
                · rw [if_pos (by rfl)]
                  refine wp_append_lies _ _ _ _ (by rfl) (w.heap.size + 1) 45 i2 _ 1 24 Try.underlying35 hi2.out hx0 hx1 hx2 rfl (by omega) (.slice A6 m c6) m vs (by rfl) hR.out ⟨w5.heap.size, 0, none⟩ 1 1 [(.slice A5 (ticL M M).length c5)] (by rfl) (by rfl) (World.news_of_block (cs := #[(.slice A5 (ticL M M).length c5)]) (heap_alloc_new _ _)) (by simp [Value.oneCell']) (by omega) (by have : maxLen = 9223372036854775807 := rfl; omega) (by omega) (by simp; omega) _ rfl ?_
                  intro g7 cap7 w7 hown7 hgr7 hat7 hlt7
                  obtain ⟨⟨⟨s0, s1⟩, s2, s3⟩, hC7⟩ := L6.out.growRows rfl (by rw [← hmH.out]; exact hown7) hgr7
                  have C7 := hide hC7
                  have lT7 : T < w7.heap.size := by have := C7.out.blk.lt; simpa using this
                  clear hown7 hgr7 hat7 hC7
                  refine hK.out _ _ ?_ (fun hHeldN => ?_)
                  · exact trivial
                  clear hK K hHeld
                  have hHeld := hHeldN
                  clear hHeldN
                  try simp only [Act.put, List.setIfInBounds_toArray, List.set_cons_zero, List.set_cons_succ]
                  refine wpAnyH_take (i := 7) (oi := { dst := some 46, op := Op.fieldAddr 37 (Operand.tmp 6) 1, type := 0, pos := "l11_lock.go:180", after := #[{ on := 0, ground := Ground.phase }, { on := 1, ground := Ground.phase }, { on := 2, ground := Ground.phase }, { on := 3, ground := Ground.phase }, { on := 4, ground := Ground.phase }, { on := 5, ground := Ground.phase }, { on := 6, ground := Ground.phase }], guard := none }) (v := ?_) rfl (by kernel_rfl) (by kernel_rfl) (by kernel_rfl) (fun _ _ _ h => h) (Or.inl ⟨by rfl, ?_⟩) hHeld ?_
                  rotate_left
                  · (intro wq hSw; (try dsimp only at hSw); first | (go_simp; done) | (go_simp; with_reducible rfl))
                  try simp only [Act.put, List.setIfInBounds_toArray, List.set_cons_zero, List.set_cons_succ]
                  refine wpAnyH_ready (rs := [8]) (by kernel_rfl) (by simp) ?_
                  refine AllReadyH.cons (o := { dst := none, op := Op.store 35 (Operand.tmp 46) (Operand.tmp 45), type := 0, pos := "l11_lock.go:180", after := #[{ on := 7, ground := Ground.data }, { on := 6, ground := Ground.data }, { on := 6, ground := Ground.chain }, { on := 0, ground := Ground.phase }, { on := 1, ground := Ground.phase }, { on := 2, ground := Ground.phase }, { on := 3, ground := Ground.phase }, { on := 4, ground := Ground.phase }, { on := 5, ground := Ground.phase }, { on := 6, ground := Ground.phase }], guard := none }) rfl (fun K hK => ?_) (AllReadyH.nil)
                  · go_simp
                    refine hK.out _ _ ?_ (fun hHeldN => ?_)
                    · exact trivial
                    clear hK K hHeld
                    have hHeld := hHeldN
                    clear hHeldN
                    try simp only [Act.put, List.setIfInBounds_toArray, List.set_cons_zero, List.set_cons_succ]
                    refine wpAnyH_done (by kernel_rfl) ?_ _
                    go_wp2_with fail
                    go_roundw
                    case rel => exact ⟨k + 1, _, _, by omega, by go_num, hide (by rw [hstep.out]; exact C7.out)⟩
                    case measure => simp [intOf]; omega
    · obtain rfl : k = N := by omega
      have hlt' : decide ((k : Int) < (k : Int)) = false := decide_eq_false (by omega)
      obtain ⟨A9, c9, rfl, -⟩ := own_form C0.out.own.rows
      obtain ⟨⟨t0, t1⟩, t2, t3⟩ := C0.out.cells
      have lT := C0.out.blk.lt
      obtain ⟨u, u', hR⟩ := C0.out.out
      obtain ⟨r0, r1⟩ := (show wr.cell? ⟨w.heap.size, 0, none⟩ = some u ∧ wr.cell? ⟨w.heap.size, 1, none⟩ = some u' from ⟨hR.cell 0, hR.cell 1⟩)
      obtain ⟨r2, r3⟩ := (show wr.frozen? ⟨w.heap.size, 0, none⟩ = false ∧ wr.frozen? ⟨w.heap.size, 1, none⟩ = false from ⟨hR.frozen 0, hR.frozen 1⟩)
      have lR := hR.lt
      have hTR := hide (show w.heap.size ≠ T from by have := C0.out.lo; omega)
      clear hR
      rw [hv.out] at t0
      go_wp2_with fail
      refine bodyPost_ret (v := .tuple #[.agg #[.slice A0 1 1, .slice A9 (ticTs M k).length c9], .bool true]) (by simp [results, Try.results22, go_sem, r0, r1]; done) rfl ?_
      refine ⟨_, _, vs, rfl, ?_, (C0.out.below.setCell (p := ⟨w.heap.size, 0, none⟩) (Nat.le_refl _) _).setCell (p := ⟨w.heap.size, 1, none⟩) (Nat.le_refl _) _⟩
      have h1 := C0.out.own.keep (w1 := (wr.setCell ⟨w.heap.size, 0, none⟩ (.slice A0 1 1)).setCell ⟨w.heap.size, 1, none⟩ (.slice A9 (ticTs M k).length c9)) (fun b hb _ => (Below.heap_setCell _ _ _ b (by show b ≠ w.heap.size; omega)).trans (Below.heap_setCell _ _ _ b (by show b ≠ w.heap.size; omega)))
      rw [hv.out] at h1
      exact ⟨own_base h1.ints (by omega), own_base h1.rows (by omega), fun j hj => own_base (h1.thr j hj) (by omega), h1.apart⟩
theorem ptic_any (z m : Int) (w : World) : Calls Try.prog 22 #[.int .i64 z, .int .i64 m] w fun e w' => FenR w w' e (ticP z m) (ticB z m) := by
  cases h : ticB z m
  · rw [show ticP z m = ⟨[], []⟩ from by unfold ticP; rw [h]; rfl]
    exact ptic_no z m w h
  · have h2 : 1 ≤ z ∧ z ≤ 3 ∧ 1 ≤ m ∧ m ≤ 3 := of_decide_eq_true h
    rw [show ticP z m = ⟨[1], ticTs m.toNat z.toNat⟩ from by unfold ticP; rw [h]; rfl]
    have h3 := ptic_yes z.toNat m.toNat w (by omega) (by omega) (by omega) (by omega)
    rwa [show ((z.toNat : Nat) : Int) = z from by omega, show ((m.toNat : Nat) : Int) = m from by omega] at h3
end Go.Proofs.Ytjendjbbhohjcaa
