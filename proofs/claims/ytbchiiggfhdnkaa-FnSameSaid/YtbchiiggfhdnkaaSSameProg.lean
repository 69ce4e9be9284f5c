/- spec.l1same and spec.SameProg: the same answers. -/
import Derived.Test.YtbchiiggfhdnkaaSameProg
import Derived.Deep.QuietTactic
import Derived.BigQuiet
namespace Go.Proofs.Ytbchiiggfhdnkaa
open Go.RowKit

set_option maxHeartbeats 800000 in
theorem l1same_any (A A' : Option Addr) (zs ys : List Int) (c c' : Nat) (S : Nat → Prop) (w : World) (hS : ∀ b, S b → b < w.heap.size) (ha : IntsAt w S A zs) (ha' : IntsAt w S A' ys) :
    Calls Try.prog 75 #[.slice A zs.length c, .slice A' ys.length c'] w fun e w' => e = .returned (.bool (sameI zs ys)) ∧ Below w.heap.size w w' := by
  have hn := ha.1
  have hn' := ha'.1
  by_cases hl : zs.length = ys.length
  · have HL := hide hl
    rw [← hl]
    clear hl hn'
    go_enter Try.func75, Try.ntmps75
    go_wp2
    go_loopw [5] (fun i wr => ∃ (k : Nat), k ≤ zs.length ∧ i = .int .i64 k ∧ Hid (∀ j, j < k → (geti zs j == geti ys j) = true) ∧ Below w.heap.size w wr) (fun i _ => zs.length - (intOf i).toNat)
    case atStart => exact ⟨0, Nat.zero_le _, rfl, hide (fun j hj => by omega), Below.refl _ _⟩
    case round =>
      obtain ⟨k, hk, rfl, hj, hb⟩ := hrel
      by_cases hlt : k < zs.length
      · obtain ⟨b, off, rfl, hbB, hc⟩ := (ha.below hb hS).2 (by omega)
        obtain ⟨b', off', rfl, hbB', hc'⟩ := (ha'.below hb hS).2 (by have := HL.out; omega)
        have hcell := hc k hlt
        have hcell' := hc' k (by have := HL.out; omega)
        have hx : ((k : Int) < (zs.length : Int)) := by omega
        clear hc hc'
        cases hr : (geti zs k == geti ys k)
        · have HF := hide (show sameI zs ys = false by unfold sameI; rw [allB_no hlt hr]; simp)
          have hr2 : (geti zs k != geti ys k) = true := by simpa using hr
          go_wp2
          go_quiet (fail)
          go_wp2
          go_ret
          exact ⟨ret_bool HF.out.symm, below_drewN hb _⟩
        · have HRk := hide hr
          have hr2 : (geti zs k != geti ys k) = false := by simpa using hr
          clear hr
          go_wp2
          go_quiet (fail)
          go_wp2
          go_roundw
          case rel =>
            refine ⟨k + 1, by omega, by go_num, hide (fun j hjk => ?_), below_drewN hb _⟩
            by_cases e : j = k
            · subst e; exact HRk.out
            · exact hj.out j (by omega)
          case measure => simp [intOf]; omega
      · obtain rfl : k = zs.length := by omega
        have HF := hide (show sameI zs ys = true by unfold sameI; rw [decide_eq_true HL.out, allB_yes hj.out]; rfl)
        go_wp2
        go_ret
        exact ⟨ret_bool HF.out.symm, hb⟩
  · have HF := hide (show sameI zs ys = false by unfold sameI; rw [decide_eq_false hl]; rfl)
    have hl' : ((zs.length : Int) != (ys.length : Int)) = true := by simp; omega
    have hl2 : ((zs.length : Int) == (ys.length : Int)) = false := by simp; omega
    clear hl
    go_enter Try.func75, Try.ntmps75
    go_wp2
    go_ret
    exact ⟨ret_bool HF.out.symm, Below.refl _ _⟩

set_option maxRecDepth 100000 in
set_option maxHeartbeats 3200000 in
theorem ssameProg_any (v v' : Value) (p q : ProgD) (S : Nat → Prop) (w : World) (hS : ∀ b, S b → b < w.heap.size) (hp : ProgAt w S v p) (hq : ProgAt w S v' q) :
    Calls Try.prog 25 #[v, v'] w fun e w' => e = .returned (.bool (sameP p q)) ∧ Below w.heap.size w w' := by
  obtain ⟨A, c, A', c', rfl, ⟨hc1, hc2⟩, hi, ht⟩ := hp
  obtain ⟨B, d, B', d', rfl, ⟨hd1, hd2⟩, hi', ht'⟩ := hq
  have hb0 := below2 w (Obj.cells #[Value.slice A p.init.length c, Value.slice A' p.ts.length c'] 36) (Obj.cells #[Value.slice B q.init.length d, Value.slice B' q.ts.length d'] 36)
  have kp := (Blk.new w 36 #[Value.slice A p.init.length c, Value.slice A' p.ts.length c']).alloc (Obj.cells #[Value.slice B q.init.length d, Value.slice B' q.ts.length d'] 36)
  have kq := Blk.new (w.alloc (Obj.cells #[Value.slice A p.init.length c, Value.slice A' p.ts.length c'] 36)) 36 #[Value.slice B q.init.length d, Value.slice B' q.ts.length d']
  have hW := show ((w.alloc (Obj.cells #[Value.slice A p.init.length c, Value.slice A' p.ts.length c'] 36)).alloc (Obj.cells #[Value.slice B q.init.length d, Value.slice B' q.ts.length d'] 36)).heap.size = w.heap.size + 1 + 1 by simp
  simp only [World.size_alloc] at kq
  have k1 := hide (fun w hS ha ha' => l1same_any A B p.init q.init c d S w hS ha ha')
  have hn1 := ht.1
  have hn2 := ht'.1
  cases hr : sameI p.init q.init
  · have HF := hide (show sameP p q = false by unfold sameP; rw [hr]; rfl)
    rw [hr] at k1
    clear hr
    go_enter Try.func25, Try.ntmps25
    go_wp2_with fail
    refine (k1.out _ (fun b h => Nat.lt_of_lt_of_le (hS b h) hb0.size) (hi.below hb0 hS) (hi'.below hb0 hS)).mono ?_
    rintro e w1 ⟨rfl, hb1⟩
    go_wp2_with fail
    go_ret
    exact ⟨ret_bool HF.out.symm, below_then hb0 hb1⟩
  rw [hr] at k1
  by_cases hl : p.ts.length = q.ts.length
  · have HR := hide hr
    have HL := hide hl
    clear hr
    rw [← hl] at kp kq hb0 hW ⊢
    clear hl hn2
    go_enter Try.func25, Try.ntmps25
    go_wp2_with fail
    refine (k1.out _ (fun b h => Nat.lt_of_lt_of_le (hS b h) hb0.size) (hi.below hb0 hS) (hi'.below hb0 hS)).mono ?_
    rintro e w1 ⟨rfl, hb1⟩
    have kp1 := kp.below hb1 (by rw [hW]; omega)
    have kq1 := kq.below hb1 (by rw [hW]; omega)
    have e0 := kp1.cell 1
    have e1 := kq1.cell 1
    simp only [List.getElem?_toArray, List.getElem?_cons_zero, List.getElem?_cons_succ] at e0 e1
    have hB1 := below_then hb0 hb1
    have hs1 : w.heap.size + 1 + 1 ≤ w1.heap.size := by have := hb1.size; rw [hW] at this; exact this
    have HP1 := hide kp1
    have HQ1 := hide kq1
    clear kp kq kp1 kq1 hb0 hb1 hW k1
    go_wp2_with fail
    clear e0 e1
    go_loopw [5] (fun i wr => ∃ (k : Nat), k ≤ p.ts.length ∧ i = .int .i64 k ∧ Hid (∀ j, j < k → sameD (gett p.ts j) (gett q.ts j) = true) ∧ Below w1.heap.size w1 wr) (fun i _ => p.ts.length - (intOf i).toNat)
    case atStart => exact ⟨0, Nat.zero_le _, rfl, hide (fun j hj => by omega), Below.refl _ _⟩
    case round =>
      obtain ⟨k, hk, rfl, hj, hb⟩ := hrel
      obtain ⟨wo, rfl⟩ : ∃ wo : World, wo = wr := ⟨_, rfl⟩
      have hbw := below_then hB1 hb
      have kp := HP1.out.below hb (by omega)
      have kq := HQ1.out.below hb (by omega)
      have e0 := kp.cell 1
      have e1 := kq.cell 1
      simp only [List.getElem?_toArray, List.getElem?_cons_zero, List.getElem?_cons_succ] at e0 e1
      have HKP := hide kp
      have HKQ := hide kq
      clear kp kq
      by_cases hlt : k < p.ts.length
      · obtain ⟨b, off, rfl, hbB, hc⟩ := (ht.below hbw hS).2 (by omega)
        obtain ⟨b', off', rfl, hbB', hc'⟩ := (ht'.below hbw hS).2 (by have := HL.out; omega)
        obtain ⟨A2, a2, hcell, hcap, hin⟩ := hc k hlt
        obtain ⟨B2, b2, hcell', hcap', hin'⟩ := hc' k (by have := HL.out; omega)
        have hm := hin.1
        have hm' := hin'.1
        have hx : ((k : Int) < (p.ts.length : Int)) := by omega
        have HC1 := hide hcell
        have HC2 := hide hcell'
        have HI1 := hide hin
        have HI2 := hide hin'
        clear hc hc' hin hin' hcap hcap'
        by_cases hll : (gett p.ts k).length = (gett q.ts k).length
        · have HLL := hide hll
          have hq1 : (((gett p.ts k).length : Int) != ((gett q.ts k).length : Int)) = false := by simp; omega
          rw [← hll] at hcell' hq1
          clear hll hm'
          go_wp2
          go_quiet (fail)
          go_wp2
          clear e0 e1 hcell hcell' hq1
          go_loopw [6] (fun i wr => ∃ (m : Nat), m ≤ (gett p.ts k).length ∧ i = .int .i64 m ∧ Hid (∀ j, j < m → insEq (getd (gett p.ts k) j) (getd (gett q.ts k) j) = true) ∧ Below wo.heap.size wo wr) (fun i _ => (gett p.ts k).length - (intOf i).toNat)
          case atStart => exact ⟨0, Nat.zero_le _, rfl, hide (fun j hj => by omega), below_drewN (Below.refl _ _) _⟩
          case round =>
            obtain ⟨m, hm0, rfl, hjm, hbm⟩ := hrel
            have hws : w.heap.size + 1 < wo.heap.size := Nat.lt_of_lt_of_le (by omega) hb.size
            have hbw' : ∀ b, S b → b < wo.heap.size := fun b h => Nat.lt_of_lt_of_le (hS b h) hbw.size
            have kp := HKP.out.below hbm (by omega)
            have kq := HKQ.out.below hbm hws
            have e0 := kp.cell 1
            have e1 := kq.cell 1
            simp only [List.getElem?_toArray, List.getElem?_cons_zero, List.getElem?_cons_succ] at e0 e1
            have e2 := ((bcell hbm).1 b (off + k) (hbw' b hbB)).trans HC1.out
            have e3 := ((bcell hbm).1 b' (off' + k) (hbw' b' hbB')).trans HC2.out
            rw [← HLL.out] at e3
            have hbR := below_then hbw hbm
            have hi1 := HI1.out.below hbm hbw'
            have hi2 := HI2.out.below hbm hbw'
            have HI1' := hide hi1
            have HI2' := hide hi2
            have hx2 : ((k : Int) < (q.ts.length : Int)) := by have := HL.out; omega
            clear kp kq hi1 hi2
            by_cases hlm : m < (gett p.ts k).length
            · obtain ⟨b2, off2, rfl, hbB2, hcc⟩ := HI1'.out.2 (by omega)
              obtain ⟨b3, off3, rfl, hbB3, hcc'⟩ := HI2'.out.2 (by have := HLL.out; omega)
              obtain ⟨c0, c1, c2, c3, c4, c5⟩ := hcc m hlm
              obtain ⟨g0, g1, g2, g3, g4, g5⟩ := hcc' m (by have := HLL.out; omega)
              have hxm : ((m : Int) < ((gett p.ts k).length : Int)) := by omega
              have hneq := fun w => equal_ins 9998 (getd (gett p.ts k) m) (getd (gett q.ts k) m) w
              clear hcc hcc'
              cases hr : insEq (getd (gett p.ts k) m) (getd (gett q.ts k) m)
              · have HF := hide (show sameP p q = false by unfold sameP sameT; rw [allB_no hlt (by unfold sameD; rw [allB_no hlm hr]; simp)]; simp)
                rw [hr] at hneq
                clear hr
                go_wp2
                go_quiet (fail)
                go_wp2
                go_ret
                exact ⟨ret_bool HF.out.symm, below_drewN hbR _⟩
              · have HRk := hide hr
                rw [hr] at hneq
                clear hr
                go_wp2
                go_quiet (fail)
                go_wp2
                go_roundw
                case rel =>
                  refine ⟨m + 1, by omega, by go_num, hide (fun j hjk => ?_), below_drewN hbm _⟩
                  by_cases e : j = m
                  · subst e; exact HRk.out
                  · exact hjm.out j (by omega)
                case measure => simp [intOf]; omega
            · obtain rfl : m = (gett p.ts k).length := by omega
              have HT := hide (show sameD (gett p.ts k) (gett q.ts k) = true by unfold sameD; rw [decide_eq_true HLL.out, allB_yes hjm.out]; rfl)
              go_wp2
              go_roundw
              case rel =>
                refine ⟨k + 1, by omega, by go_num, hide (fun j hjk => ?_), hb.trans (hbm.mono hb.size)⟩
                by_cases e : j = k
                · subst e; exact HT.out
                · exact hj.out j (by omega)
              case measure => simp [intOf]; omega
        · have HF := hide (show sameP p q = false by unfold sameP sameT; rw [allB_no hlt (by unfold sameD; rw [decide_eq_false hll]; rfl)]; simp)
          have hq1 : (((gett p.ts k).length : Int) != ((gett q.ts k).length : Int)) = true := by simp; omega
          have hq2 : (((gett p.ts k).length : Int) == ((gett q.ts k).length : Int)) = false := by simp; omega
          have hx2 : ((k : Int) < (q.ts.length : Int)) := by have := HL.out; omega
          clear hll
          go_wp2
          go_quiet (fail)
          go_wp2
          go_ret
          exact ⟨ret_bool HF.out.symm, below_drewN hbw _⟩
      · obtain rfl : k = p.ts.length := by omega
        have HF := hide (show sameP p q = true by unfold sameP sameT; rw [HR.out, decide_eq_true HL.out, allB_yes hj.out]; rfl)
        go_wp2
        go_ret
        exact ⟨ret_bool HF.out.symm, hbw⟩
  · have HF := hide (show sameP p q = false by unfold sameP sameT; rw [decide_eq_false hl]; simp)
    have hl' : ((p.ts.length : Int) != (q.ts.length : Int)) = true := by simp; omega
    have hl2 : ((p.ts.length : Int) == (q.ts.length : Int)) = false := by simp; omega
    clear hl hr
    go_enter Try.func25, Try.ntmps25
    go_wp2_with fail
    refine (k1.out _ (fun b h => Nat.lt_of_lt_of_le (hS b h) hb0.size) (hi.below hb0 hS) (hi'.below hb0 hS)).mono ?_
    rintro e w1 ⟨rfl, hb1⟩
    have kp1 := kp.below hb1 (by rw [hW]; omega)
    have kq1 := kq.below hb1 (by rw [hW]; omega)
    have e0 := kp1.cell 1
    have e1 := kq1.cell 1
    simp only [List.getElem?_toArray, List.getElem?_cons_zero, List.getElem?_cons_succ] at e0 e1
    clear kp kq kp1 kq1
    go_wp2_with fail
    go_ret
    exact ⟨ret_bool HF.out.symm, below_then hb0 hb1⟩
end Go.Proofs.Ytbchiiggfhdnkaa
