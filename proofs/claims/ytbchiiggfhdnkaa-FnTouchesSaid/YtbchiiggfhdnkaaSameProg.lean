/- impl.SameProg: are two programs in memory the same? -/
import Derived.Test.YtbchiiggfhdnkaaSameRow
import Derived.Test.YtbchiiggfhdnkaaToProg
import Derived.StillTailTactics
namespace Go.Proofs.Ytbchiiggfhdnkaa
open Go.RowKit

def sameT (ts us : List (List InsD)) : Bool := decide (ts.length = us.length) && allB (fun k => sameD (gett ts k) (gett us k)) ts.length
def sameP (p q : ProgD) : Bool := sameI p.init q.init && sameT p.ts q.ts

theorem size_init {p : ProgD} {n : Nat} (h : progSize p ≤ n) : p.init.length ≤ n := by unfold progSize at h; omega
theorem size_thr {p : ProgD} {n : Nat} (h : progSize p ≤ n) (k : Nat) (hk : k < p.ts.length) : (gett p.ts k).length ≤ n := by
  have := gett_le p.ts k hk; unfold progSize at h; omega
theorem size_ts {p : ProgD} {n : Nat} (h : progSize p ≤ n) : p.ts.length ≤ n := by
  have := insTo_le p.ts 0; unfold progSize at h; omega

set_option maxRecDepth 100000 in
set_option maxHeartbeats 3200000 in
theorem sameProg_any (v v' : Value) (p q : ProgD) (S : Nat → Prop) (w : World) (hsp : progSize p ≤ 1048576) (hsq : progSize q ≤ 1048576) (hS : ∀ b, S b → b < w.heap.size) (hp : ProgAt w S v p) (hq : ProgAt w S v' q) :
    Calls Try.prog 24 #[v, v'] w fun e w' => e = .returned (.bool (sameP p q)) ∧ Below w.heap.size w w' := by
  obtain ⟨A, c, A', c', rfl, ⟨hc1, hc2⟩, hi, ht⟩ := hp
  obtain ⟨B, d, B', d', rfl, ⟨hd1, hd2⟩, hi', ht'⟩ := hq
  have hb0 := below2 w (Obj.cells #[Value.slice A p.init.length c, Value.slice A' p.ts.length c'] 36) (Obj.cells #[Value.slice B q.init.length d, Value.slice B' q.ts.length d'] 36)
  have kp := (Blk.new w 36 #[Value.slice A p.init.length c, Value.slice A' p.ts.length c']).alloc (Obj.cells #[Value.slice B q.init.length d, Value.slice B' q.ts.length d'] 36)
  have kq := Blk.new (w.alloc (Obj.cells #[Value.slice A p.init.length c, Value.slice A' p.ts.length c'] 36)) 36 #[Value.slice B q.init.length d, Value.slice B' q.ts.length d']
  have hW := show ((w.alloc (Obj.cells #[Value.slice A p.init.length c, Value.slice A' p.ts.length c'] 36)).alloc (Obj.cells #[Value.slice B q.init.length d, Value.slice B' q.ts.length d'] 36)).heap.size = w.heap.size + 1 + 1 by simp
  simp only [World.size_alloc] at kq
  have k1 := hide (fun w hS ha ha' => sameRowI_any A B p.init q.init c d S w (size_init hsp) (size_init hsq) hc1 hd1 hS ha ha')
  have hn1 := size_ts hsp
  have hn2 := size_ts hsq
  cases hr : sameI p.init q.init
  · have HF := hide (show sameP p q = false by unfold sameP; rw [hr]; rfl)
    rw [hr] at k1
    clear hr
    go_enter Try.func24, Try.ntmps24
    go_wp2_with fail
    refine (k1.out _ (fun b h => Nat.lt_of_lt_of_le (hS b h) hb0.size) (hi.below hb0 hS) (hi'.below hb0 hS)).mono ?_
    rintro e w1 ⟨rfl, hb1⟩
    go_wp2_with fail
    go_ret
    exact ⟨ret_bool HF.out.symm, below_then hb0 hb1⟩
  rw [hr] at k1
  by_cases hl : p.ts.length = q.ts.length
  · have HR := hide hr
    have HL := hide hl
    clear hr
    rw [← hl] at kp kq hb0 hW ⊢
    clear hl hn2
    go_enter Try.func24, Try.ntmps24
    go_wp2_with fail
    refine (k1.out _ (fun b h => Nat.lt_of_lt_of_le (hS b h) hb0.size) (hi.below hb0 hS) (hi'.below hb0 hS)).mono ?_
    rintro e w1 ⟨rfl, hb1⟩
    have kp1 := kp.below hb1 (by rw [hW]; omega)
    have kq1 := kq.below hb1 (by rw [hW]; omega)
    have e0 := kp1.cell 1
    have e1 := kq1.cell 1
    simp only [List.getElem?_toArray, List.getElem?_cons_zero, List.getElem?_cons_succ] at e0 e1
    have hB1 := below_then hb0 hb1
    have hs1 : w.heap.size + 1 + 1 ≤ w1.heap.size := by have := hb1.size; rw [hW] at this; exact this
    have HP1 := hide kp1
    have HQ1 := hide kq1
    clear kp kq kp1 kq1 hb0 hb1 hW k1
    go_wp2_with fail
    clear e0 e1
    go_loopw [24] (fun i wr => ∃ (k : Nat), k ≤ p.ts.length ∧ i = .int .i64 k ∧ Hid (∀ j, j < k → sameD (gett p.ts j) (gett q.ts j) = true) ∧ Below w1.heap.size w1 wr) (fun i _ => p.ts.length - (intOf i).toNat)
    case atStart => exact ⟨0, Nat.zero_le _, rfl, hide (fun j hj => by omega), Below.refl _ _⟩
    case round =>
      obtain ⟨k, hk, rfl, hj, hb⟩ := hrel
      have hbw := below_then hB1 hb
      by_cases hlt : k < p.ts.length
      · obtain ⟨b, off, rfl, hbB, hc⟩ := (ht.below hbw hS).2 (by omega)
        obtain ⟨b', off', rfl, hbB', hc'⟩ := (ht'.below hbw hS).2 (by have := HL.out; omega)
        obtain ⟨A2, a2, hcell, hcap, hin⟩ := hc k hlt
        obtain ⟨B2, b2, hcell', hcap', hin'⟩ := hc' k (by have := HL.out; omega)
        have kp := HP1.out.below hb (by omega)
        have kq := HQ1.out.below hb (by omega)
        have e0 := kp.cell 1
        have e1 := kq.cell 1
        simp only [List.getElem?_toArray, List.getElem?_cons_zero, List.getElem?_cons_succ] at e0 e1
        have hx : ((k : Int) < (p.ts.length : Int)) := by omega
        have kc := hide (fun w hS ha ha' => sameRowD_any A2 B2 (gett p.ts k) (gett q.ts k) a2 b2 S w (size_thr hsp k hlt) (size_thr hsq k (by have := HL.out; omega)) hcap hcap' hS ha ha')
        have hid1 : InssAt wr.drew S A2 (gett p.ts k) := hin
        have hid2 : InssAt wr.drew S B2 (gett q.ts k) := hin'
        have HI1 := hide hid1
        have HI2 := hide hid2
        have hbd := hbw.drew
        have hbe := hb.drew
        clear hc hc' kp kq hin hin' hid1 hid2 hcap hcap'
        cases hr : sameD (gett p.ts k) (gett q.ts k)
        · have HF := hide (show sameP p q = false by unfold sameP sameT; rw [allB_no hlt hr]; simp)
          rw [hr] at kc
          clear hr
          go_wp2_with fail
          go_still_tail 12, (by kernel_rfl)
          change wpList _ _ _ _ _ wr.drew
          clear e0 e1 hcell hcell' hb hbw
          generalize wr.drew = w2 at *
          go_wp2_with (go_at_call 74; refine (kc.out w2 (fun b h => Nat.lt_of_lt_of_le (hS b h) hbd.size) HI1.out HI2.out).mono ?_; rintro e w3 ⟨rfl, hb3⟩)
          go_ret
          exact ⟨ret_bool HF.out.symm, below_then hbd hb3⟩
        · rw [hr] at kc
          have HRk := hide hr
          clear hr
          go_wp2_with fail
          go_still_tail 12, (by kernel_rfl)
          change wpList _ _ _ _ _ wr.drew
          clear e0 e1 hcell hcell' hb hbw
          generalize wr.drew = w2 at *
          go_wp2_with (go_at_call 74; refine (kc.out w2 (fun b h => Nat.lt_of_lt_of_le (hS b h) hbd.size) HI1.out HI2.out).mono ?_; rintro e w3 ⟨rfl, hb3⟩)
          go_roundw
          case rel =>
            refine ⟨k + 1, by omega, by go_num, hide (fun j hjk => ?_), below_then hbe hb3⟩
            by_cases e : j = k
            · subst e; exact HRk.out
            · exact hj.out j (by omega)
          case measure => simp [intOf]; omega
      · obtain rfl : k = p.ts.length := by omega
        have HF := hide (show sameP p q = true by unfold sameP sameT; rw [HR.out, decide_eq_true HL.out, allB_yes hj.out]; rfl)
        go_wp2
        go_ret
        exact ⟨ret_bool HF.out.symm, hbw⟩
  · have HF := hide (show sameP p q = false by unfold sameP sameT; rw [decide_eq_false hl]; simp)
    have hl' : ((p.ts.length : Int) != (q.ts.length : Int)) = true := by simp; omega
    have hl2 : ((p.ts.length : Int) == (q.ts.length : Int)) = false := by simp; omega
    clear hl hr
    go_enter Try.func24, Try.ntmps24
    go_wp2_with fail
    refine (k1.out _ (fun b h => Nat.lt_of_lt_of_le (hS b h) hb0.size) (hi.below hb0 hS) (hi'.below hb0 hS)).mono ?_
    rintro e w1 ⟨rfl, hb1⟩
    have kp1 := kp.below hb1 (by rw [hW]; omega)
    have kq1 := kq.below hb1 (by rw [hW]; omega)
    have e0 := kp1.cell 1
    have e1 := kq1.cell 1
    simp only [List.getElem?_toArray, List.getElem?_cons_zero, List.getElem?_cons_succ] at e0 e1
    clear kp kq kp1 kq1
    go_wp2_with fail
    go_ret
    exact ⟨ret_bool HF.out.symm, below_then hb0 hb1⟩
end Go.Proofs.Ytbchiiggfhdnkaa
