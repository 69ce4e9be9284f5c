/- The program's does: a pick that may be done is, of others the worker gives up, and nothing has changed. -/
import Derived.Test.YtfnphnjadknoaaaMp0
import Derived.Test.YtfnphnjadknoaaaMp21
import Derived.Tactics
import Derived.Tactics2
import Derived.Defers
import Derived.Recover
import Derived.Laws.Pointers
namespace Go.Proofs.Ytfnphnjadknoaaa
open Go.RowKit

theorem gI_tail (zs : List Int) (k : Nat) : gI zs.tail k = gI zs (k + 1) := by
  unfold gI geti
  cases zs <;> simp
set_option maxRecDepth 100000 in
set_option maxHeartbeats 6400000 in
theorem steal_any (f : Nat → Nat) (B g qp : Nat) (x : PV) (p : PoolD) (W V : Nat) (w : World) (hI : Hid (PInv p (-1))) (hW : W < p.dq.length) (hV : V < p.dq.length) (hWV : W ≠ V) (hne : 0 < (getq p.dq V).length) (hB : B ≤ w.heap.size) (h : CrewO w f B g qp x p) :
    Calls Try.prog 111 #[.pointer (some ⟨g, 0, none⟩), .int .i64 W, .int .i64 V] w fun e w' => e = .returned (.tuple #[]) ∧ ∃ f' rv, CrewO w' f' B g qp { x with rv := rv } (stealP p W V) ∧ OwnC f B w w' ∧ ∀ b, b < w.heap.size → f' b = f b := by
  obtain ⟨bD, oD, cD, hD, -, lbD, xh, zh⟩ := h.pool.rows.heads.one hV
  have hE := h.pool.rows.each V hV
  obtain ⟨n, hn⟩ : ∃ n, (getq p.dq V).length = n + 1 := ⟨(getq p.dq V).length - 1, by omega⟩
  have h30 := hI.out.tree.top
  have hrl := hI.out.row_len hW
  obtain ⟨qR, oR, cR, hv0, fR, -, hcR⟩ := hE.at_ (k := 0) (by omega)
  obtain ⟨cs, hle, hmax, e1, e2, e3, e4, e5⟩ : ∃ cs, (getq p.dq V).length ≤ cR ∧ cR ≤ 9223372036854775807 ∧ f qR = 9 + V * 2 ∧ B ≤ qR ∧ Blk w qR 3 cs ∧ oR + cR * 1 ≤ cs.size ∧ ∀ k, k < (getq p.dq V).length * 1 → cs[oR + k]? = some (gI (getq p.dq V) k) := by
    rcases hE with ⟨e, e2⟩ | ⟨q', off', c', cs, e, h1, h2, h3, h4, h5, h6, h7⟩
    · omega
    · rw [hv0] at e
      cases e
      exact ⟨cs, h1, h2, h3, h4, h5, h6, h7⟩
  have xz := (hcR.2 0 (by omega)).1
  rw [Nat.add_zero] at xz
  obtain ⟨z, hz⟩ : ∃ z, z = geti (getq p.dq V) 0 := ⟨_, rfl⟩
  replace xz : w.cell? ⟨qR, oR, none⟩ = some (.int .i64 z) := by rw [hz]; exact xz
  rw [hv0, hn] at xh
  have kW := hide (rowOf_any f B g qp x p W w hW h hD)
  have kV := hide (rowOf_any f B g qp x p V w hV h hD)
  have kF := hide (takeFirst_any bD (oD + V) qR oR n cR z w xh zh (by omega) hmax xz)
  have hlen1 : (getq p.dq V).tail.length = n := by rw [List.length_tail]; omega
  have s1 := fun o' (ho : o' = oR + 1 ∨ (o' = oR ∧ cR = 1)) => h.put_row hV (Lab.refl f (9 + V * 2) B w) (fun _ _ => rfl) (v' := .slice (some ⟨qR, o', none⟩) n (cR - 1)) (r := (getq p.dq V).tail) (by
    rw [hlen1]
    rcases ho with rfl | ⟨rfl, hc⟩
    · exact .inr ⟨qR, oR + 1, cR - 1, cs, rfl, by omega, by omega, e1, e2, e3, by omega, fun k hk => by rw [gI_tail, Nat.add_assoc, Nat.add_comm 1 k]; exact e5 (k + 1) (by omega)⟩
    · exact .inr ⟨qR, o', cR - 1, cs, rfl, by omega, by omega, e1, e2, e3, by omega, fun k hk => by omega⟩) hD
  have kP := hide (fun o' (ho : o' = oR + 1 ∨ (o' = oR ∧ cR = 1)) => put_any f B g qp _ _ W ((w.setCell ⟨bD, oD + V, none⟩ (.slice (some ⟨qR, o', none⟩) n (cR - 1))).alloc (Obj.cells #[.int .i64 z] 3)) (by show W < (p.dq.set V _).length; rw [List.length_set]; exact hW) (by rw [World.size_alloc]; simp; omega) ((s1 o' ho).1.alloc _) (bD := bD) (oD := oD) (cD := cD) (by show x.D = .slice (some ⟨bD, oD, none⟩) (p.dq.set V _).length cD; rw [List.length_set]; exact hD) (Old (w.heap.size + 1)) (some ⟨w.heap.size, 0, none⟩) 1 [z] (by
    show (getq (p.dq.set V _) W).length + 1 ≤ _
    rw [getq_far hWV]
    omega) ⟨by simp, fun _ => ⟨w.heap.size, 0, rfl, by show w.heap.size < w.heap.size + 1; omega, fun k hk => by
      have hk0 : k = 0 := by simpa using hk
      subst hk0
      have := (Blk.new (w.setCell ⟨bD, oD + V, none⟩ (.slice (some ⟨qR, o', none⟩) n (cR - 1))) 3 #[.int .i64 z]).cell 0
      simpa [geti] using this⟩⟩)
  have hO := hide (fun o' (ho : o' = oR + 1 ∨ (o' = oR ∧ cR = 1)) => (s1 o' ho).2.trans (Chg.of_below (below1 _ (Obj.cells #[.int .i64 z] 3))))
  have hS := hide (show stealP p W V = { p with dq := (p.dq.set V (getq p.dq V).tail).set W (getq p.dq W ++ [z]) } from by rw [hz]; rfl)
  simp only [getq_far hWV] at kP
  replace hz := hide hz
  replace h := hide h
  replace hD := hide hD
  replace hn := hide hn
  replace hv0 := hide hv0
  replace hlen1 := hide hlen1
  clear s1 hE hcR e1 e2 e3 e4 e5
  go_enter Try.func111, Try.ntmps111
  go_upto_region 1 with (first | (go_at_call_of 123 ([Value.pointer (some ⟨g, 0, none⟩), Value.int .i64 (W : Int)]); refine kW.out.mono ?_; rintro e wx ⟨rfl, rfl⟩) | (go_at_call_of 123 ([Value.pointer (some ⟨g, 0, none⟩), Value.int .i64 (V : Int)]); refine kV.out.mono ?_; rintro e wx ⟨rfl, rfl⟩))
  go_wp2_with (first
    | (go_at_call 127; refine kF.out.mono ?_; rintro e wx ⟨rfl, o', ho', rfl⟩)
    | (go_at_call 125; refine (kP.out o' ho').mono ?_; rintro e w2 ⟨rfl, f2, v2, hC2, hO2, hf2⟩))
  go_end0
  refine ⟨rfl, f2, updV (updV x.rv V (.slice (some ⟨qR, o', none⟩) n (cR - 1))) W v2, ?_, ?_, ?_⟩
  · rw [hS.out]
    exact hC2
  · exact (hO.out o' ho').trans hO2
  · exact fun b hb => hf2 b (by rw [World.size_alloc]; simp; omega)
end Go.Proofs.Ytfnphnjadknoaaa

namespace Go.Proofs.Ytfnphnjadknoaaa
open Go.RowKit

def gaveUp : List PanicEntry := [{ v := .iface 135 (.agg #[]), recovered := false }]

set_option maxHeartbeats 800000 in
theorem rowOf_gives (f : Nat → Nat) (B g qp : Nat) (x : PV) (p : PoolD) (W : Int) (w : World) (hW : ¬ (0 ≤ W ∧ W < p.dq.length)) (h : CrewO w f B g qp x p) :
    Calls Try.prog 123 #[.pointer (some ⟨g, 0, none⟩), .int .i64 W] w fun e w' => e = .panicked gaveUp ∧ w = w' := by
  obtain ⟨⟨-, x1, -, -, -, -, -, -⟩, xl⟩ := box8 h.box
  obtain ⟨AD, cD, hD⟩ := h.pool.rows.heads.form
  rw [hD] at x1
  clear h hD
  unfold gaveUp
  by_cases h0 : W < 0
  · clear hW
    go_enter Try.func123, Try.ntmps123
    go_wp2_with fail
    exact ⟨rfl, rfl, rfl⟩
  · have h1 : ¬ W < (p.dq.length : Int) := by omega
    have h2 : (p.dq.length : Int) ≤ W := by omega
    clear hW
    go_enter Try.func123, Try.ntmps123
    go_wp2_with fail
    exact ⟨rfl, rfl, rfl⟩
set_option maxHeartbeats 800000 in
theorem takeLast_gives (b o c : Nat) (A : Option Addr) (w : World) (h : w.cell? ⟨b, o, none⟩ = some (.slice A 0 c)) :
    Calls Try.prog 124 #[.pointer (some ⟨b, o, none⟩)] w fun e w' => e = .panicked gaveUp ∧ w = w' := by
  unfold gaveUp
  go_enter Try.func124, Try.ntmps124
  go_wp2_with fail
  exact ⟨rfl, rfl, rfl⟩
set_option maxHeartbeats 800000 in
theorem takeFirst_gives (b o c : Nat) (A : Option Addr) (w : World) (h : w.cell? ⟨b, o, none⟩ = some (.slice A 0 c)) :
    Calls Try.prog 127 #[.pointer (some ⟨b, o, none⟩)] w fun e w' => e = .panicked gaveUp ∧ w = w' := by
  unfold gaveUp
  go_enter Try.func127, Try.ntmps127
  go_wp2_with fail
  exact ⟨rfl, rfl, rfl⟩
theorem CrewO.empty {f : Nat → Nat} {B g qp : Nat} {x : PV} {p : PoolD} {w : World} {W : Nat} (h : CrewO w f B g qp x p) (hW : W < p.dq.length) (h0 : (getq p.dq W).length = 0) :
    ∃ bD oD cD A c, x.D = .slice (some ⟨bD, oD, none⟩) p.dq.length cD ∧ w.cell? ⟨bD, oD + W, none⟩ = some (.slice A 0 c) := by
  obtain ⟨bD, oD, cD, hD, -, lbD, xh, zh⟩ := h.pool.rows.heads.one hW
  obtain ⟨A, c, hv⟩ := (h.pool.rows.each W hW).form
  rw [h0] at hv
  exact ⟨bD, oD, cD, A, c, hD, by rw [← hv]; exact xh⟩
set_option maxHeartbeats 1600000 in
theorem take_gives (f : Nat → Nat) (B g qp : Nat) (x : PV) (p : PoolD) (W : Int) (w : World) (hm : mayP p W W = false) (h : CrewO w f B g qp x p) :
    Calls Try.prog 110 #[.pointer (some ⟨g, 0, none⟩), .int .i64 W] w fun e w' => e = .panicked gaveUp ∧ w = w' := by
  by_cases hW : 0 ≤ W ∧ W < p.dq.length
  · obtain ⟨W, rfl⟩ : ∃ n : Nat, W = n := ⟨W.toNat, by omega⟩
    have hW' : W < p.dq.length := by omega
    have h0 : (getq p.dq W).length = 0 := by
      rcases Nat.eq_zero_or_pos (getq p.dq W).length with e | e
      · exact e
      · have : mayP p W W = true := by
          unfold mayP
          simp only [Bool.and_eq_true, decide_eq_true_eq, Int.toNat_natCast]
          omega
        rw [this] at hm
        cases hm
    obtain ⟨bD, oD, cD, A, c, hD, xh⟩ := h.empty hW' h0
    have kR := hide (rowOf_any f B g qp x p W w hW' h hD)
    have kL := hide (takeLast_gives bD (oD + W) c A w xh)
    clear hm hW h xh hD h0
    unfold gaveUp at kL ⊢
    go_enter Try.func110, Try.ntmps110
    go_upto_region 1 with (go_at_call 123; refine kR.out.mono ?_; rintro e wx ⟨rfl, rfl⟩)
    go_wp2_with (go_at_call 124; refine kL.out.mono ?_; rintro e wx ⟨rfl, rfl⟩)
    exact ⟨rfl, rfl, rfl⟩
  · have kR := hide (rowOf_gives f B g qp x p W w hW h)
    clear hm hW h
    unfold gaveUp at kR ⊢
    go_enter Try.func110, Try.ntmps110
    go_wp2_with (go_at_call 123; refine kR.out.mono ?_; rintro e wx ⟨rfl, rfl⟩)
    exact ⟨rfl, rfl, rfl⟩
set_option maxHeartbeats 1600000 in
theorem steal_gives (f : Nat → Nat) (B g qp : Nat) (x : PV) (p : PoolD) (W V : Int) (w : World) (hm : mayP p W V = false) (h : CrewO w f B g qp x p) :
    Calls Try.prog 111 #[.pointer (some ⟨g, 0, none⟩), .int .i64 W, .int .i64 V] w fun e w' => e = .panicked gaveUp ∧ w = w' := by
  by_cases hW : 0 ≤ W ∧ W < p.dq.length
  · obtain ⟨W, rfl⟩ : ∃ n : Nat, W = n := ⟨W.toNat, by omega⟩
    have hW' : W < p.dq.length := by omega
    obtain ⟨bD, oD, cD, hD, -⟩ := h.pool.rows.heads.one hW'
    have kW := hide (rowOf_any f B g qp x p W w hW' h hD)
    by_cases hV : 0 ≤ V ∧ V < p.dq.length
    · obtain ⟨V, rfl⟩ : ∃ n : Nat, V = n := ⟨V.toNat, by omega⟩
      have hV' : V < p.dq.length := by omega
      have h0 : (getq p.dq V).length = 0 := by
        rcases Nat.eq_zero_or_pos (getq p.dq V).length with e | e
        · exact e
        · have : mayP p W V = true := by
            unfold mayP
            simp only [Bool.and_eq_true, decide_eq_true_eq, Int.toNat_natCast]
            omega
          rw [this] at hm
          cases hm
      obtain ⟨bV, oV, cV, A, c, hDV, xh⟩ := h.empty hV' h0
      have kV := hide (rowOf_any f B g qp x p V w hV' h hDV)
      have kF := hide (takeFirst_gives bV (oV + V) c A w xh)
      clear hm hW hV h xh hD hDV h0
      unfold gaveUp at kF ⊢
      go_enter Try.func111, Try.ntmps111
      go_upto_region 1 with (first | (go_at_call_of 123 ([Value.pointer (some ⟨g, 0, none⟩), Value.int .i64 (W : Int)]); refine kW.out.mono ?_; rintro e wx ⟨rfl, rfl⟩) | (go_at_call_of 123 ([Value.pointer (some ⟨g, 0, none⟩), Value.int .i64 (V : Int)]); refine kV.out.mono ?_; rintro e wx ⟨rfl, rfl⟩))
      go_wp2_with (go_at_call 127; refine kF.out.mono ?_; rintro e wx ⟨rfl, rfl⟩)
      exact ⟨rfl, rfl, rfl⟩
    · have kV := hide (rowOf_gives f B g qp x p V w hV h)
      clear hm hW hV h hD
      unfold gaveUp at kV ⊢
      go_enter Try.func111, Try.ntmps111
      go_wp2_with (first | (go_at_call_of 123 ([Value.pointer (some ⟨g, 0, none⟩), Value.int .i64 (W : Int)]); refine kW.out.mono ?_; rintro e wx ⟨rfl, rfl⟩) | (go_at_call_of 123 ([Value.pointer (some ⟨g, 0, none⟩), Value.int .i64 V]); refine kV.out.mono ?_; rintro e wx ⟨rfl, rfl⟩))
      exact ⟨rfl, rfl, rfl⟩
  · have kW := hide (rowOf_gives f B g qp x p W w hW h)
    clear hm hW h
    unfold gaveUp at kW ⊢
    go_enter Try.func111, Try.ntmps111
    go_wp2_with (go_at_call_of 123 ([Value.pointer (some ⟨g, 0, none⟩), Value.int .i64 W]); refine kW.out.mono ?_; rintro e wx ⟨rfl, rfl⟩)
    exact ⟨rfl, rfl, rfl⟩
end Go.Proofs.Ytfnphnjadknoaaa

namespace Go.Proofs.Ytfnphnjadknoaaa
open Go.RowKit

theorem CrewO.relab {w : World} {f f' : Nat → Nat} {B g qp : Nat} {x : PV} {p : PoolD} (h : CrewO w f B g qp x p) (hf : ∀ b, b < w.heap.size → f' b = f b) : CrewO w f' B g qp x p :=
  ⟨h.box, by rw [hf _ h.box.lt]; exact h.fg, h.par, by rw [hf _ h.par.lt]; exact h.fq, h.pool.relab hf⟩
theorem CrewO.set0 {w : World} {f : Nat → Nat} {B g qp : Nat} {x : PV} {p : PoolD} (h : CrewO w f B g qp x p) {a : Addr} (ha : f a.block = 0) (hg : g ≠ a.block) (hq : qp ≠ a.block) (u : Value) : CrewO (w.setCell a u) f B g qp x p :=
  ⟨h.box.far hg u, h.fg, h.par.far hq u, h.fq, h.pool.keep (fun _ hb _ _ => unlab ha hb)⟩
theorem OwnC.new {w w' : World} {f : Nat → Nat} {B : Nat} (h : OwnC f B w w') {a : Addr} (ha : w.heap.size ≤ a.block) (u : Value) : OwnC f B w (w'.setCell a u) :=
  ⟨h.os, h.tape, h.output, by simpa using h.size, fun b hb hn => (Below.heap_setCell w' a u b (by omega)).trans (h.block b hb hn)⟩
theorem does_hit (w : World) : (Instr.typeAssert (.iface 135 (.agg #[])) 20 135 true).run Try.prog w = .ok (.tuple #[.agg #[], .bool true]) w := by kernel_rfl
theorem does_miss (w : World) : (Instr.typeAssert .nilIface 20 135 true).run Try.prog w = .ok (.tuple #[.agg #[], .bool false]) w := by kernel_rfl
set_option maxRecDepth 100000 in
theorem does_panicking (pa : Addr) (b : Bool) (w : World) (hc : w.cell? pa = some (.bool b)) (hz : w.frozen? pa = false) :
    CallsD Try.prog 109 #[.pointer (some pa)] (.panicking gaveUp) w fun e u' w' =>
      e = .returned (.tuple #[]) ∧ u' = .panicking [{ v := .iface 135 (.agg #[]), recovered := true }] ∧ w' = (w.alloc (Obj.cells #[] 135)).setCell pa (.bool false) := by
  unfold gaveUp
  have h1 := does_hit
  have hlt := World.block_lt_of_cell? w pa hc
  have hc1 : (w.alloc (Obj.cells #[] 135)).cell? pa = some (.bool b) := by rw [World.cell?_alloc_lt _ _ _ hlt]; exact hc
  have hz1 : (w.alloc (Obj.cells #[] 135)).frozen? pa = false := by rw [World.frozen?_alloc_old _ _ _ (by omega)]; exact hz
  refine callsD_of_wpS Try.func109 rfl fun c₀ cs hu => ?_
  apply wpS_seq
  apply wpS_region
  simp [wpOpsS, go_sem, recoverD, hu, Try.ntmps109, Exit.thenS, h1]
  apply wpS_region
  simp [wpOpsS, go_sem, hc1, hz1, bodyPostS, results, Try.results109]
set_option maxRecDepth 100000 in
theorem does_idle (pa : Addr) (b : Bool) (w : World) (hc : w.cell? pa = some (.bool b)) (hz : w.frozen? pa = false) :
    CallsD Try.prog 109 #[.pointer (some pa)] .returning w fun e u' w' =>
      e = .returned (.tuple #[]) ∧ u' = .returning ∧ w' = (w.alloc (Obj.cells #[] 135)).setCell pa (.bool true) := by
  have h1 := does_miss
  have hlt := World.block_lt_of_cell? w pa hc
  have hc1 : (w.alloc (Obj.cells #[] 135)).cell? pa = some (.bool b) := by rw [World.cell?_alloc_lt _ _ _ hlt]; exact hc
  have hz1 : (w.alloc (Obj.cells #[] 135)).frozen? pa = false := by rw [World.frozen?_alloc_old _ _ _ (by omega)]; exact hz
  refine callsD_of_wpS Try.func109 rfl fun c₀ cs hu => ?_
  apply wpS_seq
  apply wpS_region
  simp [wpOpsS, go_sem, recoverD, hu, Try.ntmps109, Exit.thenS, h1]
  apply wpS_region
  simp [wpOpsS, go_sem, hc1, hz1, bodyPostS, results, Try.results109]
  cases c₀
  simp_all
set_option maxRecDepth 100000 in
set_option maxHeartbeats 3200000 in
theorem does_any (f : Nat → Nat) (B g qp : Nat) (x : PV) (p : PoolD) (W V : Int) (w : World) (hI : Hid (PInv p (-1))) (hsz : Hid (∀ k, (getj p.js k).ks.length ≤ 1048576)) (hB : B ≤ w.heap.size) (h : CrewO w f B g qp x p) :
    Calls Try.prog 67 #[.pointer (some ⟨g, 0, none⟩), .agg #[.int .i64 W, .int .i64 V]] w fun e w' => e = .returned (.bool (mayP p W V)) ∧ ∃ f' rv, CrewO w' f' B g qp { x with rv := rv } (pickP p W V) ∧ OwnC f B w w' ∧ ∀ b, b < w.heap.size → f' b = f b := by
  have hmf : ∀ (fn : Fn) (first cap : Array Value) (w : World), (Instr.makeFunc fn first cap).run Try.prog w = .ok (.func fn first cap) w := fun _ _ _ _ => rfl
  -- two boxes ahead: the pick's, the result's
  obtain ⟨f0, hf0⟩ : ∃ f0 : Nat → Nat, f0 = fun b => if b < w.heap.size then f b else 0 := ⟨_, rfl⟩
  have hfe : ∀ b, b < w.heap.size → f0 b = f b := fun b hb => by rw [hf0]; exact if_pos hb
  have hfn : ∀ b, w.heap.size ≤ b → f0 b = 0 := fun b hb => by rw [hf0]; exact if_neg (by omega)
  have hb2 := below2 w (Obj.cells #[.int .i64 W, .int .i64 V] 48) (Obj.cells #[.bool false] 4)
  have hK := (Blk.new w 48 #[.int .i64 W, .int .i64 V]).alloc (Obj.cells #[.bool false] 4)
  have hR := Blk.new (w.alloc (Obj.cells #[.int .i64 W, .int .i64 V] 48)) 4 #[.bool false]
  simp only [World.size_alloc] at hR
  have hC := (h.relab hfe).next hb2
  obtain ⟨w2, hw2⟩ : ∃ w2, w2 = (w.alloc (Obj.cells #[.int .i64 W, .int .i64 V] 48)).alloc (Obj.cells #[.bool false] 4) := ⟨_, rfl⟩
  have hs2 : w2.heap.size = w.heap.size + 1 + 1 := by rw [hw2]; simp
  rw [← hw2] at hb2 hK hR hC
  have k0 := hK.cell 0
  have k1 := hK.cell 1
  have r0 := hR.cell 0
  simp only [List.getElem?_toArray, List.getElem?_cons_zero, List.getElem?_cons_succ] at k0 k1 r0
  have hgl := h.box.lt
  have hql := h.par.lt
  -- behind what was done, and what the deferred function does
  have fin : ∀ (w3 : World) (f3 : Nat → Nat) (x3 : PV) (p3 : PoolD) (b : Bool), CrewO w3 f3 B g qp x3 p3 → OwnC f0 B w2 w3 → (∀ b, b < w2.heap.size → f3 b = f0 b) →
      CrewO ((w3.alloc (Obj.cells #[] 135)).setCell ⟨w.heap.size + 1, 0, none⟩ (.bool b)) f3 B g qp x3 p3 ∧ OwnC f B w ((w3.alloc (Obj.cells #[] 135)).setCell ⟨w.heap.size + 1, 0, none⟩ (.bool b)) ∧ (∀ b, b < w.heap.size → f3 b = f b) ∧
      w3.cell? ⟨w.heap.size + 1, 0, none⟩ = some (.bool false) ∧ w3.frozen? ⟨w.heap.size + 1, 0, none⟩ = false ∧ ((w3.alloc (Obj.cells #[] 135)).setCell ⟨w.heap.size + 1, 0, none⟩ (.bool b)).cell? ⟨w.heap.size + 1, 0, none⟩ = some (.bool b) := by
    intro w3 f3 x3 p3 b hC3 hO3 hf3
    have hR3 : Blk w3 (w.heap.size + 1) 4 #[.bool false] := hR.chg hO3 (fun e => e.1 (hfn _ (by omega)))
    have hR4 := (hR3.alloc (Obj.cells #[] 135)).set_ 0 (.bool b)
    have c3 := hR3.cell 0
    have z3 := hR3.frozen 0
    have c4 := hR4.cell 0
    simp only [List.getElem?_toArray, List.getElem?_cons_zero] at c3
    refine ⟨(hC3.alloc _).set0 ?_ ?_ ?_ _, ?_, fun b hb => by rw [hf3 b (by omega), hfe b hb], c3, z3, by simpa using c4⟩
    · show f3 (w.heap.size + 1) = 0
      rw [hf3 _ (by omega)]
      exact hfn _ (by omega)
    · show g ≠ w.heap.size + 1
      omega
    · show qp ≠ w.heap.size + 1
      omega
    · exact OwnC.new (OwnC.then_ (f' := f0) (Chg.of_below hb2) hfe (hO3.trans (Chg.of_below (below1 w3 _)))) (by show w.heap.size ≤ w.heap.size + 1; omega) _
  obtain ⟨res, hres⟩ : ∃ res, res = mayP p W V := ⟨_, rfl⟩
  obtain ⟨pk, hpk⟩ : ∃ pk, pk = pickP p W V := ⟨_, rfl⟩
  rw [← hres, ← hpk]
  by_cases hm : mayP p W V = true
  · have hm2 := hm
    unfold mayP at hm2
    simp only [Bool.and_eq_true, decide_eq_true_eq] at hm2
    obtain ⟨⟨⟨⟨a1, a2⟩, a3⟩, a4⟩, a5⟩ := hm2
    obtain ⟨n, rfl⟩ : ∃ n : Nat, W = n := ⟨W.toNat, by omega⟩
    obtain ⟨v, rfl⟩ : ∃ v : Nat, V = v := ⟨V.toNat, by omega⟩
    rw [Int.toNat_natCast] at a5
    rw [hm] at hres
    unfold pickP at hpk
    rw [if_pos hm] at hpk
    simp only [Int.toNat_natCast] at hpk
    by_cases e : n = v
    · subst e
      rw [if_pos rfl] at hpk
      have kT := hide (take_any f0 B g qp x p n w2 hI hsz (by omega) a5 (by omega) hC)
      rw [← hpk] at kT
      replace fin := hide fin
      replace hres := hide hres
      clear hC hb2 hK hR hf0 hfe hfn hpk hm h a1 a2 a3 a4 a5 hs2
      go_enter_defers Try.func67, Try.ntmps67
      go_upto_region 2 with fail
      rw [← hw2]
      replace hw2 := hide hw2
      go_wp2_with (go_at_call 110; refine kT.out.mono ?_; rintro e w3 ⟨rfl, f3, rv, hC3, hO3, hf3⟩)
      obtain ⟨c1, o1, l1, y1, z1, y2⟩ := fin.out w3 f3 _ _ true hC3 hO3 hf3
      refine leaves_cons (f := 109) (args := #[.pointer (some ⟨w.heap.size + 1, 0, none⟩)]) (by simp) (by simp [go_sem]) ?_
      refine (does_idle ⟨w.heap.size + 1, 0, none⟩ false _ y1 z1).mono ?_
      rintro e u' w'' ⟨rfl, rfl, rfl⟩
      replace c1 := hide c1
      replace o1 := hide o1
      simp only [Leaves, settle, results, Try.results67, go_sem]
      refine ⟨.bool true, ?_, by rw [hres.out], f3, rv, c1.out, o1.out, l1⟩
      simp [go_sem, y2]
    · have e' : ¬ (n : Int) = v := by omega
      rw [if_neg e'] at hpk
      have kT := hide (steal_any f0 B g qp x p n v w2 hI (by omega) (by omega) e a5 (by omega) hC)
      rw [← hpk] at kT
      have hne : ((v : Int) == (n : Int)) = false := beq_eq_false_iff_ne.2 (by omega)
      replace fin := hide fin
      replace hres := hide hres
      clear hC hb2 hK hR hf0 hfe hfn hpk hm h e e' a1 a2 a3 a4 a5 hs2
      go_enter_defers Try.func67, Try.ntmps67
      go_upto_region 2 with fail
      rw [← hw2]
      replace hw2 := hide hw2
      go_wp2_with (go_at_call 111; refine kT.out.mono ?_; rintro e w3 ⟨rfl, f3, rv, hC3, hO3, hf3⟩)
      obtain ⟨c1, o1, l1, y1, z1, y2⟩ := fin.out w3 f3 _ _ true hC3 hO3 hf3
      refine leaves_cons (f := 109) (args := #[.pointer (some ⟨w.heap.size + 1, 0, none⟩)]) (by simp) (by simp [go_sem]) ?_
      refine (does_idle ⟨w.heap.size + 1, 0, none⟩ false _ y1 z1).mono ?_
      rintro e u' w'' ⟨rfl, rfl, rfl⟩
      replace c1 := hide c1
      replace o1 := hide o1
      simp only [Leaves, settle, results, Try.results67, go_sem]
      refine ⟨.bool true, ?_, by rw [hres.out], f3, rv, c1.out, o1.out, l1⟩
      simp [go_sem, y2]
  · have hm0 : mayP p W V = false := by simpa using hm
    rw [hm0] at hres
    unfold pickP at hpk
    rw [if_neg hm] at hpk
    have k2 := fin w2 f0 x pk false (by rw [hpk]; exact hC) (Chg.refl _ _) (fun _ _ => rfl)
    obtain ⟨c1, o1, l1, y1, z1, y2⟩ := k2
    replace c1 := hide c1
    replace o1 := hide o1
    replace l1 := hide l1
    by_cases e : V = W
    · subst e
      have kT := hide (take_gives f0 B g qp x p V w2 hm0 hC)
      replace hres := hide hres
      clear hC hb2 hK hR hf0 hfe hfn hpk hm hm0 h hs2 fin
      unfold gaveUp at kT
      go_enter_defers Try.func67, Try.ntmps67
      go_upto_region 2 with fail
      rw [← hw2]
      replace hw2 := hide hw2
      go_wp2_with (go_at_call 110; refine kT.out.mono ?_; rintro e w3 ⟨rfl, rfl⟩)
      refine leaves_cons (f := 109) (args := #[.pointer (some ⟨w.heap.size + 1, 0, none⟩)]) (by simp) (by simp [go_sem]) ?_
      refine (does_panicking ⟨w.heap.size + 1, 0, none⟩ false _ y1 z1).mono ?_
      rintro e u' w'' ⟨rfl, rfl, rfl⟩
      simp only [settle, go_sem]
      refine ⟨.bool false, ?_, by rw [hres.out], f0, _, c1.out, o1.out, l1.out⟩
      simp [results, Try.results67, go_sem, y2]
    · have kT := hide (steal_gives f0 B g qp x p W V w2 hm0 hC)
      have hne : (V == W) = false := beq_eq_false_iff_ne.2 e
      replace hres := hide hres
      clear hC hb2 hK hR hf0 hfe hfn hpk hm hm0 h hs2 fin
      unfold gaveUp at kT
      go_enter_defers Try.func67, Try.ntmps67
      go_upto_region 2 with fail
      rw [← hw2]
      replace hw2 := hide hw2
      go_wp2_with (go_at_call 111; refine kT.out.mono ?_; rintro e w3 ⟨rfl, rfl⟩)
      refine leaves_cons (f := 109) (args := #[.pointer (some ⟨w.heap.size + 1, 0, none⟩)]) (by simp) (by simp [go_sem]) ?_
      refine (does_panicking ⟨w.heap.size + 1, 0, none⟩ false _ y1 z1).mono ?_
      rintro e u' w'' ⟨rfl, rfl, rfl⟩
      simp only [settle, go_sem]
      refine ⟨.bool false, ?_, by rw [hres.out], f0, _, c1.out, o1.out, l1.out⟩
      simp [results, Try.results67, go_sem, y2]
end Go.Proofs.Ytfnphnjadknoaaa
