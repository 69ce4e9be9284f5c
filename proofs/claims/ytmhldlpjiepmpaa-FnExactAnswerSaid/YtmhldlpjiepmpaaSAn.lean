/- spec.Answer. -/
import Derived.Test.YtmhldlpjiepmpaaAnD
import Derived.Test.YtmhldlpjiepmpaaSPoO
namespace Go.Proofs.Ytmhldlpjiepmpaa
open Go.RowKit

set_option maxHeartbeats 3200000 in
theorem sanswer_any (a : PA) (p : PoolD) (S : Nat → Prop) (w : World) (hsz : Hid (∀ k, (getj p.js k).ks.length ≤ 1048576)) (hzQ : Hid (sizeQ p.dq ≤ 1048576)) (hS : ∀ b, S b → b < w.heap.size) (ha : PoolAt w S a p) :
    Calls Try.prog 30 #[.agg (a.cells p)] w fun e w' => e = .returned (.tuple #[.int .i64 (ansI p).1, .bool (ansI p).2]) ∧ Below w.heap.size w w' := by
  unfold PA.cells
  obtain ⟨res, hres⟩ : ∃ res, res = ansI p := ⟨_, rfl⟩
  rw [← hres]
  replace hres := hide hres
  have hb0 := below1 w (Obj.cells #[.slice a.A0 p.js.length a.c0, .slice a.A1 p.dq.length a.c1, .slice a.A2 p.ran.length a.c2, .slice a.A3 p.dn.length a.c3, .slice a.A4 p.lf.length a.c4, .slice a.A5 p.sm.length a.c5, .slice a.A6 p.vl.length a.c6] 28)
  have X0 := Blk.new w 28 #[.slice a.A0 p.js.length a.c0, .slice a.A1 p.dq.length a.c1, .slice a.A2 p.ran.length a.c2, .slice a.A3 p.dn.length a.c3, .slice a.A4 p.lf.length a.c4, .slice a.A5 p.sm.length a.c5, .slice a.A6 p.vl.length a.c6]
  obtain ⟨w0, hw0⟩ : ∃ w0, w0 = w.alloc (Obj.cells #[.slice a.A0 p.js.length a.c0, .slice a.A1 p.dq.length a.c1, .slice a.A2 p.ran.length a.c2, .slice a.A3 p.dn.length a.c3, .slice a.A4 p.lf.length a.c4, .slice a.A5 p.sm.length a.c5, .slice a.A6 p.vl.length a.c6] 28) := ⟨_, rfl⟩
  rw [← hw0] at hb0 X0
  have ha0 := ha.below hb0 hS
  have hS0 : ∀ b, S b → b < w0.heap.size := fun b h => Nat.lt_of_lt_of_le (hS b h) hb0.size
  have kP := hide (spoolOk_any a p S w0 hsz hzQ hS0 ha0)
  unfold PA.cells at kP
  obtain ⟨⟨x0, x1, x2, x3, x4, x5, x6⟩, xl⟩ := box7 X0
  obtain ⟨q, hq⟩ : ∃ q, q = w.heap.size := ⟨_, rfl⟩
  rw [← hq] at X0 x0 x1 x2 x3 x4 x5 x6 xl
  replace X0 := hide X0
  replace ha0 := hide ha0
  replace hb0 := hide hb0
  clear ha
  cases hp : poolB p
  · rw [hp] at kP
    have hE := hide (show ansI p = (0, false) from by unfold ansI; rw [hp]; rfl)
    go_enter Try.func30, Try.ntmps30
    go_upto_region 1 with fail
    rw [← hw0, ← hq]
    clear hw0
    replace hq := hide hq
    go_wp2_with (go_at_call 26; refine kP.out.mono ?_; rintro e w1 ⟨rfl, hb⟩)
    refine bodyPost_ret (v := .tuple #[.int .i64 0, .bool false]) (by simp [results, Try.results30, go_sem]; done) rfl ?_
    exact ⟨by rw [hres.out, hE.out], below_next hb0.out hb hb0.out.size⟩
  · rw [hp] at kP
    have hT := jobsB_tree (show jobsB p.js = true by unfold poolB at hp; simp only [Bool.and_eq_true] at hp; exact hp.1.1.1.1.1)
    have hlen := lensB_len (show lensB p = true by unfold poolB at hp; simp only [Bool.and_eq_true] at hp; exact hp.1.1.1.2)
    have h01 := hT.one
    have l3 : 0 < p.dn.length := by rw [hlen.dn]; omega
    have l6 : 0 < p.vl.length := by rw [hlen.vl]; omega
    have kA := hide (fun w1 (hb : Below w0.heap.size w0 w1) => (ha0.out.below hb hS0).dn.at_ l3)
    have kV := hide (fun w1 (hb : Below w0.heap.size w0 w1) => (ha0.out.below hb hS0).vl.at_ l6)
    have m3 : (0 : Int) < p.dn.length := by omega
    have m6 : (0 : Int) < p.vl.length := by omega
    have hE := hide (show ansI p = if getb p.dn 0 then (geti p.vl 0, true) else (0, false) from by unfold ansI; rw [hp]; rfl)
    go_enter Try.func30, Try.ntmps30
    go_upto_region 1 with fail
    rw [← hw0, ← hq]
    clear hw0 hT
    replace hq := hide hq
    cases hd : getb p.dn 0
    · rw [hd] at hE kA
      go_wp2_with (go_at_call 26; refine kP.out.mono ?_; rintro e w1 ⟨rfl, hb⟩; obtain ⟨⟨y0, y1, y2, y3, y4, y5, y6⟩, yl⟩ := box7 (X0.out.below hb xl); obtain ⟨b3, o3, e3, -, z3⟩ := kA.out w1 hb; rw [e3] at y3; rw [Nat.add_zero] at z3)
      refine bodyPost_ret (v := .tuple #[.int .i64 0, .bool false]) (by simp [results, Try.results30, go_sem]; done) rfl ?_
      exact ⟨by rw [hres.out, hE.out]; rfl, below_next hb0.out hb hb0.out.size⟩
    · rw [hd] at hE kA
      go_wp2_with (go_at_call 26; refine kP.out.mono ?_; rintro e w1 ⟨rfl, hb⟩; obtain ⟨⟨y0, y1, y2, y3, y4, y5, y6⟩, yl⟩ := box7 (X0.out.below hb xl); obtain ⟨b3, o3, e3, -, z3⟩ := kA.out w1 hb; rw [e3] at y3; rw [Nat.add_zero] at z3; obtain ⟨b6, o6, e6, -, z6⟩ := kV.out w1 hb; rw [e6] at y6; rw [Nat.add_zero] at z6)
      refine bodyPost_ret (v := .tuple #[.int .i64 (geti p.vl 0), .bool true]) (by simp [results, Try.results30, go_sem]; done) rfl ?_
      exact ⟨by rw [hres.out, hE.out]; rfl, below_next hb0.out hb hb0.out.size⟩
end Go.Proofs.Ytmhldlpjiepmpaa
