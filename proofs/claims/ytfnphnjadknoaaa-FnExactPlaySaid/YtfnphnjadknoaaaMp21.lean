/- The program's take where it does not give up. -/
import Derived.Test.YtfnphnjadknoaaaMp0
import Derived.Test.YtfnphnjadknoaaaMp6
import Derived.Test.YtfnphnjadknoaaaMp20
namespace Go.Proofs.Ytfnphnjadknoaaa
open Go.RowKit

section
variable {w w' w1 : World} {f f' : Nat → Nat} {B g qp : Nat} {x : PV} {p : PoolD} {l W : Nat}
theorem Lab.relab (h : Lab f l B w w') (hf : ∀ b, b < w.heap.size → f' b = f b) : Lab f' l B w w' := ⟨h.os, h.tape, h.output, h.size, fun k hk hn => h.block k hk (fun e => hn (by rw [hf k hk]; exact e))⟩
theorem OwnC.then_ {a b c : World} (h : OwnC f B a b) (hf : ∀ x, x < a.heap.size → f' x = f x) (k : OwnC f' B b c) : OwnC f B a c :=
  ⟨k.os.trans h.os, k.tape.trans h.tape, k.output.trans h.output, Nat.le_trans h.size k.size, fun x hx hn => (k.block x (Nat.lt_of_lt_of_le hx h.size) (fun e => hn (by rw [hf x hx] at e; exact e))).trans (h.block x hx hn)⟩
theorem CrewO.put_row (h : CrewO w f B g qp x p) (hW : W < p.dq.length) (hL : Lab f (9 + W * 2) B w w1) (hf : ∀ b, b < w.heap.size → f' b = f b) {v' : Value} {r : List Int} (hS : Sl 3 1 w1 f' (9 + W * 2) B v' r.length (gI r)) {bD oD cD : Nat} (hD : x.D = .slice (some ⟨bD, oD, none⟩) p.dq.length cD) :
    CrewO (w1.setCell ⟨bD, oD + W, none⟩ v') f' B g qp { x with rv := updV x.rv W v' } { p with dq := p.dq.set W r } ∧ OwnC f B w (w1.setCell ⟨bD, oD + W, none⟩ v') := by
  obtain ⟨q', off', c', e, h1, h2, h3, -⟩ := h.pool.rows.heads.at_ (k := W) (by omega)
  rw [hD] at e
  cases e
  have hL' := hL.relab hf
  have fD : f' bD = 2 := by rw [hf _ h3]; exact h1
  have hM : Lab f' 2 B w1 (w1.setCell ⟨bD, oD + W, none⟩ v') := Lab.set_ ⟨fD, h2⟩ _
  have fg : f' g = 0 := by rw [hf _ h.box.lt]; exact h.fg
  have fq : f' qp = 0 := by rw [hf _ h.par.lt]; exact h.fq
  refine ⟨⟨hM.blk (hL'.blk h.box (by rw [fg]; omega)) (by rw [fg]; omega), fg, (h.par.labs hL' (by rw [fq]; omega)).labs hM (by rw [fq]; omega), fq,
    ⟨((h.pool.jobs.relab hf).labs hL' (by omega)).labs hM (by omega), ⟨?_, fun k hk => ?_⟩, ((h.pool.ran.relab hf).other hL' (by omega)).other hM (by omega), ((h.pool.dn.relab hf).other hL' (by omega)).other hM (by omega), ((h.pool.lf.relab hf).other hL' (by omega)).other hM (by omega), ((h.pool.sm.relab hf).other hL' (by omega)).other hM (by omega), ((h.pool.vl.relab hf).other hL' (by omega)).other hM (by omega)⟩⟩,
    (OwnC.of_lab hL (by omega)).then_ hf (OwnC.of_lab hM (by omega))⟩
  · show Sl 35 1 _ f' 2 B x.D (p.dq.set W r).length (updV x.rv W v')
    rw [List.length_set]
    exact ((h.pool.rows.heads.relab hf).other hL' (by omega)).set_ hD (by omega) _
  · have hk : k < (p.dq.set W r).length := hk
    rw [List.length_set] at hk
    show Sl 3 1 _ f' (9 + k * 2) B (updV x.rv W v' k) (getq (p.dq.set W r) k).length (gI (getq (p.dq.set W r) k))
    by_cases e : k = W
    · subst e
      rw [updV_at, getq_at hW]
      exact hS.other hM (by omega)
    · rw [updV_far e, getq_far e]
      exact (((h.pool.rows.each k hk).relab hf).other hL' (by omega)).other hM (by omega)
end
set_option maxHeartbeats 800000 in
theorem rowOf_any (f : Nat → Nat) (B g qp : Nat) (x : PV) (p : PoolD) (W : Nat) (w : World) (hW : W < p.dq.length) (h : CrewO w f B g qp x p) {bD oD cD : Nat} (hD : x.D = .slice (some ⟨bD, oD, none⟩) p.dq.length cD) :
    Calls Try.prog 123 #[.pointer (some ⟨g, 0, none⟩), .int .i64 W] w fun e w' => e = .returned (.pointer (some ⟨bD, oD + W, none⟩)) ∧ w = w' := by
  obtain ⟨⟨-, x1, -, -, -, -, -, -⟩, xl⟩ := box8 h.box
  rw [hD] at x1
  have hW' : (W : Int) < p.dq.length := by omega
  clear h hD
  go_enter Try.func123, Try.ntmps123
  go_wp2_with fail
  go_ret
  exact ⟨rfl, rfl⟩
set_option maxHeartbeats 800000 in
theorem takeLast_any (b o q off n c : Nat) (z : Int) (w : World) (h : w.cell? ⟨b, o, none⟩ = some (.slice (some ⟨q, off, none⟩) (n + 1) c)) (hz : w.frozen? ⟨b, o, none⟩ = false) (hn : n + 1 ≤ c) (hc : c ≤ 9223372036854775807) (hk : w.cell? ⟨q, off + n, none⟩ = some (.int .i64 z)) :
    Calls Try.prog 124 #[.pointer (some ⟨b, o, none⟩)] w fun e w' => e = .returned (.int .i64 z) ∧ w' = w.setCell ⟨b, o, none⟩ (.slice (some ⟨q, off, none⟩) n c) := by
  have h1 : ((n + 1 : Nat) : Int) - 1 = n := by omega
  go_enter Try.func124, Try.ntmps124
  go_wp2_with fail
  go_ret
  exact ⟨rfl, rfl⟩
set_option maxHeartbeats 800000 in
theorem takeFirst_any (b o q off n c : Nat) (z : Int) (w : World) (h : w.cell? ⟨b, o, none⟩ = some (.slice (some ⟨q, off, none⟩) (n + 1) c)) (hz : w.frozen? ⟨b, o, none⟩ = false) (hn : n + 1 ≤ c) (hc : c ≤ 9223372036854775807) (hk : w.cell? ⟨q, off, none⟩ = some (.int .i64 z)) :
    Calls Try.prog 127 #[.pointer (some ⟨b, o, none⟩)] w fun e w' => e = .returned (.int .i64 z) ∧ ∃ o', (o' = off + 1 ∨ (o' = off ∧ c = 1)) ∧ w' = w.setCell ⟨b, o, none⟩ (.slice (some ⟨q, o', none⟩) n (c - 1)) := by
  by_cases h1 : c = 1
  · subst h1
    obtain rfl : n = 0 := by omega
    go_enter Try.func127, Try.ntmps127
    go_wp2_with fail
    go_ret
    refine ⟨rfl, off, ?_⟩
    simp
  · go_enter Try.func127, Try.ntmps127
    go_wp2_with fail
    go_ret
    exact ⟨rfl, _, .inl rfl, rfl⟩
end Go.Proofs.Ytfnphnjadknoaaa

namespace Go.Proofs.Ytfnphnjadknoaaa
open Go.RowKit

theorem gApp_eq (a b : List Int) (k : Nat) : gI (a ++ b) k = gApp (gI a) a.length b k := by
  unfold gApp gI geti
  by_cases h : k < a.length
  · rw [if_pos h, List.getD_eq_getElem?_getD, List.getD_eq_getElem?_getD, List.getElem?_append_left h]
  · rw [if_neg h, List.getD_eq_getElem?_getD, List.getD_eq_getElem?_getD, List.getElem?_append_right (by omega)]
set_option maxRecDepth 100000 in
set_option maxHeartbeats 1600000 in
theorem put_any (f : Nat → Nat) (B g qp : Nat) (x : PV) (p : PoolD) (W : Nat) (w : World) (hW : W < p.dq.length) (hB : B ≤ w.heap.size) (h : CrewO w f B g qp x p) {bD oD cD : Nat} (hD : x.D = .slice (some ⟨bD, oD, none⟩) p.dq.length cD) (S : Nat → Prop) (A : Option Addr) (c : Nat) (zs : List Int) (hn : (getq p.dq W).length + zs.length ≤ 1048576) (ha : IntsAt w S A zs) :
    Calls Try.prog 125 #[.pointer (some ⟨bD, oD + W, none⟩), .slice A zs.length c] w fun e w' => e = .returned (.tuple #[]) ∧ ∃ f' v', CrewO w' f' B g qp { x with rv := updV x.rv W v' } { p with dq := p.dq.set W (getq p.dq W ++ zs) } ∧ OwnC f B w w' ∧ ∀ b, b < w.heap.size → f' b = f b := by
  obtain ⟨i1, hi1, hy0, hy1, hy2⟩ := info_parts Try.infoInt
  obtain ⟨bD', oD', cD', e, -, lbD, xh, zh⟩ := h.pool.rows.heads.one hW
  rw [hD] at e
  cases e
  have hE := h.pool.rows.each W hW
  obtain ⟨A0, c0, hv0⟩ := hE.form
  rw [hv0] at xh hE
  obtain ⟨n, hnn⟩ : ∃ n, n = (getq p.dq W).length := ⟨_, rfl⟩
  rw [← hnn] at xh hE hn
  replace hE := hide hE
  replace hnn := hide hnn
  replace h := hide h
  replace ha := hide ha
  replace hv0 := hide hv0
  replace hD := hide hD
  go_enter Try.func125, Try.ntmps125
  go_wp2_with (at_builtin; refine wpList_append_sl _ rfl _ _ _ rfl 3 i1 _ 8 Try.underlying26 hi1 hy0 hy1 hy2 rfl (.slice A0 n c0) n (gI (getq p.dq W)) rfl hE.out S A zs.length c zs rfl (by rfl) ha.out (by have : maxLen = 9223372036854775807 := rfl; omega) (by omega) hB ?_)
  intro v' w1 f' hS hL hf
  obtain ⟨A1, c1, rfl⟩ := hS.form
  obtain ⟨b2, o2, c2, e2, -, lb2, xh1, zh1⟩ := (h.out.pool.rows.heads.other hL (by omega)).one hW
  have e3 := hD.out.symm.trans e2
  cases e3
  have hrow := h.out.put_row hW hL hf (v' := .slice A1 (n + zs.length) c1) (r := getq p.dq W ++ zs) (by
    rw [List.length_append, ← hnn.out]
    exact hS.congr (fun k _ => by rw [hnn.out]; exact gApp_eq _ _ k)) hD.out
  replace hrow := hide hrow
  replace hf := hide hf
  clear hS hL xh zh
  go_wp2_with fail
  go_end0
  exact ⟨rfl, f', _, hrow.out.1, hrow.out.2, hf.out⟩
end Go.Proofs.Ytfnphnjadknoaaa

namespace Go.Proofs.Ytfnphnjadknoaaa
open Go.RowKit

theorem gI_init {zs : List Int} {k : Nat} (h : k < zs.length - 1) : gI zs.dropLast k = gI zs k := by
  unfold gI geti
  rw [List.getD_eq_getElem?_getD, List.getD_eq_getElem?_getD, List.getElem?_dropLast, if_pos h]
set_option maxRecDepth 100000 in
set_option maxHeartbeats 6400000 in
theorem take_any (f : Nat → Nat) (B g qp : Nat) (x : PV) (p : PoolD) (W : Nat) (w : World) (hI : Hid (PInv p (-1))) (hsz : Hid (∀ k, (getj p.js k).ks.length ≤ 1048576)) (hW : W < p.dq.length) (hne : 0 < (getq p.dq W).length) (hB : B ≤ w.heap.size) (h : CrewO w f B g qp x p) :
    Calls Try.prog 110 #[.pointer (some ⟨g, 0, none⟩), .int .i64 W] w fun e w' => e = .returned (.tuple #[]) ∧ ∃ f' rv, CrewO w' f' B g qp { x with rv := rv } (takeP p W) ∧ OwnC f B w w' ∧ ∀ b, b < w.heap.size → f' b = f b := by
  obtain ⟨bD, oD, cD, hD, -, lbD, xh, zh⟩ := h.pool.rows.heads.one hW
  have hE := h.pool.rows.each W hW
  obtain ⟨n, hn⟩ : ∃ n, (getq p.dq W).length = n + 1 := ⟨(getq p.dq W).length - 1, by omega⟩
  obtain ⟨hrow, hJ, hz⟩ := hI.out.last hW hne
  obtain ⟨J, hJJ⟩ : ∃ J, J = lastJ p W := ⟨_, rfl⟩
  rw [← hJJ] at hrow hJ hz
  have hJb := (hI.out.stands hW (j := J) (by rw [hrow]; simp)).1
  have h30 := hI.out.tree.top
  have hrl := hI.out.row_len hW
  obtain ⟨qR, oR, cR, hv0, fR, -, hcR⟩ := hE.at_ (k := n) (by omega)
  obtain ⟨hle, hmax⟩ : (getq p.dq W).length ≤ cR ∧ cR ≤ 9223372036854775807 := by
    rcases hE with ⟨e, e2⟩ | ⟨q', off', c', cs, e, h1, h2, -⟩
    · omega
    · rw [hv0] at e
      cases e
      exact ⟨h1, h2⟩
  have xz := (hcR.2 n (by omega)).1
  unfold gI at xz
  rw [show n = (getq p.dq W).length - 1 by omega, hz] at xz
  rw [show (getq p.dq W).length - 1 = n by omega] at xz
  rw [hv0, hn] at xh
  have kR := hide (rowOf_any f B g qp x p W w hW h hD)
  have kL := hide (takeLast_any bD (oD + W) qR oR n cR (J : Int) w xh zh (by omega) hmax xz)
  -- the row without its last
  have hlen1 : (getq p.dq W).dropLast.length = n := by rw [List.length_dropLast]; omega
  have s1 := h.put_row hW (Lab.refl f (9 + W * 2) B w) (fun _ _ => rfl) (v' := .slice (some ⟨qR, oR, none⟩) n cR) (r := (getq p.dq W).dropLast) (by
    rw [hlen1]
    rw [hv0, hn] at hE
    exact (hE.init (m := n) (by omega) (by omega)).congr (fun k hk => gI_init (by omega))) hD
  have hC1 := s1.1
  have hO1 := s1.2
  obtain ⟨w1, hw1⟩ : ∃ w1, w1 = w.setCell ⟨bD, oD + W, none⟩ (.slice (some ⟨qR, oR, none⟩) n cR) := ⟨_, rfl⟩
  rw [← hw1] at hC1 hO1
  have hsz1 : w1.heap.size = w.heap.size := by rw [hw1]; simp
  clear s1 hE hcR
  obtain ⟨⟨x0, -, -, -, -, -, -, -⟩, xl⟩ := box8 hC1.box
  obtain ⟨b0, o0, c0, v0, f0, -, -, hL⟩ := hC1.pool.jobs.heads.at_ (k := J * 2 + 1) (by show J * 2 + 1 < p.js.length * 2; omega)
  have xk := (hL (J * 2 + 1) (by show J * 2 + 1 < p.js.length * 2; omega)).1
  rw [gJob_k, ← Nat.add_assoc] at xk
  have hKs := hC1.pool.jobs.each J hJb
  obtain ⟨AK, cK, vK⟩ := hKs.form
  have hKi : IntsAt w1 (Old w1.heap.size) AK (getj p.js J).ks := hKs.intsO vK
  rw [vK] at xk
  rw [show x.L = .slice (some ⟨b0, o0, none⟩) p.js.length c0 from v0] at x0
  replace x0 : w1.cell? ⟨g, 0, none⟩ = some (.slice (some ⟨b0, o0, none⟩) p.js.length c0) := x0
  replace xk : w1.cell? ⟨b0, o0 + J * 2 + 1, none⟩ = some (.slice AK (getj p.js J).ks.length cK) := xk
  clear hL hKs vK v0
  have hks := hsz.out J
  have kP := hide (put_any f B g qp _ _ W w1 (by show W < (p.dq.set W _).length; rw [List.length_set]; exact hW) (by rw [hsz1]; exact hB) hC1 (bD := bD) (oD := oD) (cD := cD) (by show x.D = .slice (some ⟨bD, oD, none⟩) (p.dq.set W _).length cD; rw [List.length_set]; exact hD) (Old w1.heap.size) AK cK (getj p.js J).ks (by
    show (getq (p.dq.set W _) W).length + _ ≤ _
    rw [getq_at hW, hlen1]
    have hkl : (getj p.js J).ks.length ≤ p.js.length := once_len _ _ (fun y hy => by have := hI.out.tree.mem hJb hy; omega) (fun y => by
      by_cases hy : y ∈ (getj p.js J).ks
      · rw [hI.out.tree.once hJb hy]; omega
      · rw [List.count_eq_zero.2 hy]; omega)
    omega) hKi)
  simp only [getq_at hW, List.set_set] at kP
  replace hO1 := hide hO1
  obtain ⟨r, hr⟩ : ∃ r, r = (getq p.dq W).dropLast ++ (getj p.js J).ks := ⟨_, rfl⟩
  rw [← hr] at kP
  have hT := hide (show takeP p W = if (getj p.js J).ks.length = 0 then finP (J + 1) (ranP p W J r) J else ranP p W J r from by rw [hr, hJJ]; rfl)
  have hTk := hI.out.took hW hrow
  rw [← hr] at hTk
  replace hTk := hide hTk
  have hJl : (J : Int) < p.js.length := by omega
  have e2 := hI.out.lran
  have e4 := hI.out.llf
  replace hr := hide hr
  replace hJJ := hide hJJ
  obtain ⟨m, hm⟩ : ∃ m, m = (getj p.js J).ks.length := ⟨_, rfl⟩
  rw [← hm] at xk hT hTk kP
  replace hm := hide hm
  replace h := hide h
  replace hrow := hide hrow
  replace hD := hide hD
  replace hz := hide hz
  replace hv0 := hide hv0
  replace hn := hide hn
  replace hlen1 := hide hlen1
  replace hC1 := hide hC1
  replace hKi := hide hKi
  replace hsz1 := hide hsz1
  clear xh zh xz fR f0 hks
  go_enter Try.func110, Try.ntmps110
  go_upto_region 1 with (go_at_call 123; refine kR.out.mono ?_; rintro e wx ⟨rfl, rfl⟩)
  go_upto_region 2 with (go_at_call 124; refine kL.out.mono ?_; rintro e wx ⟨rfl, rfl⟩)
  rw [← hw1]
  clear hw1
  go_upto_region 4 with (go_at_call 125; refine kP.out.mono ?_; rintro e w2 ⟨rfl, f2, v2, hC2, hO2, hf2⟩)
  obtain ⟨⟨-, -, y2, -, y4, -, -, -⟩, yl⟩ := box8 hC2.box
  obtain ⟨b3, o3, c3, v3, f3, lb3, xd, zd⟩ := hC2.pool.ran.one (k := J) (by show J < p.ran.length; omega)
  obtain ⟨b5, o5, c5, v5, f5, lb5, xl5, zl5⟩ := hC2.pool.lf.one (k := J) (by show J < p.lf.length; omega)
  have fg := hC2.fg
  have ng3 : g ≠ b3 := fun e => by rw [← e] at f3; omega
  have ng5 : g ≠ b5 := fun e => by rw [← e] at f5; omega
  have n35 : b5 ≠ b3 := fun e => by rw [← e] at f3; omega
  have s1 := hC2.set_ran (j := J) (by show J < p.ran.length; omega) v3 true
  have s2 := s1.1.set_lf (j := J) (by show J < p.lf.length; omega) v5 (m : Int)
  have hC3 := s2.1.drew
  have hO3 : OwnC f2 B w2 ((w2.setCell ⟨b3, o3 + J, none⟩ (.bool true)).setCell ⟨b5, o5 + J, none⟩ (.int .i64 m)).drew := (OwnC.of_lab s1.2 (by omega)).trans ((OwnC.of_lab s2.2 (by omega)).trans (Chg.of_below (Below.refl _ _).drew))
  rw [show x.R = .slice (some ⟨b3, o3, none⟩) p.ran.length c3 from v3] at y2
  rw [show x.F = .slice (some ⟨b5, o5, none⟩) p.lf.length c5 from v5] at y4
  replace y2 : w2.cell? ⟨g, 2, none⟩ = some (.slice (some ⟨b3, o3, none⟩) p.ran.length c3) := y2
  replace y4 : w2.cell? ⟨g, 4, none⟩ = some (.slice (some ⟨b5, o5, none⟩) p.lf.length c5) := y4
  obtain ⟨w3, hw3⟩ : ∃ w3, w3 = ((w2.setCell ⟨b3, o3 + J, none⟩ (.bool true)).setCell ⟨b5, o5 + J, none⟩ (.int .i64 m)).drew := ⟨_, rfl⟩
  rw [← hw3] at hC3 hO3
  have hC3 : CrewO w3 f2 B g qp { x with rv := updV (updV x.rv W (.slice (some ⟨qR, oR, none⟩) n cR)) W v2 } (ranP p W J r) := by
    have e : ranP p W J r = { { { p with dq := p.dq.set W r } with ran := p.ran.set J true } with lf := p.lf.set J (m : Int) } := by unfold ranP; rw [← hm.out]
    rw [e]
    exact hC3
  have hO := hide ((hO1.out.trans hO2).then_ (fun b hb => hf2 b (by rw [hsz1.out]; exact hb)) hO3)
  have hff := hide (show ∀ b, b < w.heap.size → f2 b = f b from fun b hb => hf2 b (by rw [hsz1.out]; exact hb))
  have l3 : (J : Int) < p.ran.length := by omega
  have l5 : (J : Int) < p.lf.length := by omega
  replace hC3 := hide hC3
  replace hO3 := hide hO3
  replace v3 := hide v3
  replace v5 := hide v5
  clear s1 s2 hO2 hf2 f3 f5 fg hC2
  refine wp_region_held_drew (S := (fun w' => w'.cell? ⟨g, 2, none⟩ = some (.slice (some ⟨b3, o3, none⟩) p.ran.length c3) ∧ w'.cell? ⟨g, 4, none⟩ = some (.slice (some ⟨b5, o5, none⟩) p.lf.length c5))) (by kernel_rfl) ?_ (fun hHeld => ?_)
  · exact ⟨y2, y4⟩
  refine wpAnyH_take (i := 0) (oi := { dst := some 24, op := Op.move (.tmp 0), type := 90, pos := "l09_jobs.go:249", after := #[], guard := none }) (v := ?_) rfl (by kernel_rfl) (by kernel_rfl) (by kernel_rfl) (fun _ _ _ h => h) (Or.inl ⟨by rfl, ?_⟩) hHeld ?_
  rotate_left
  · (intro wq hSw; (try dsimp only at hSw); first | (go_simp; done) | (go_simp; with_reducible rfl))
  try simp only [Act.put, qa, qb, qc]
  refine wpAnyH_take (i := 1) (oi := { dst := some 25, op := Op.nilCheck (.tmp 24), type := 0, pos := "l09_jobs.go:249", after := #[⟨0, .data⟩], guard := none }) (v := ?_) rfl (by kernel_rfl) (by kernel_rfl) (by kernel_rfl) (fun _ _ _ h => h) (Or.inl ⟨by rfl, ?_⟩) hHeld ?_
  rotate_left
  · (intro wq hSw; (try dsimp only at hSw); first | (go_simp; done) | (go_simp; with_reducible rfl))
  try simp only [Act.put, qa, qb, qc]
  refine wpAnyH_take (i := 2) (oi := { dst := some 26, op := Op.fieldAddr 98 (.tmp 25) 0, type := 0, pos := "l09_jobs.go:249", after := #[⟨1, .data⟩], guard := none }) (v := ?_) rfl (by kernel_rfl) (by kernel_rfl) (by kernel_rfl) (fun _ _ _ h => h) (Or.inl ⟨by rfl, ?_⟩) hHeld ?_
  rotate_left
  · (intro wq hSw; (try dsimp only at hSw); first | (go_simp; done) | (go_simp; with_reducible rfl))
  try simp only [Act.put, qa, qb, qc]
  refine wpAnyH_take (i := 3) (oi := { dst := some 27, op := Op.fieldAddr 28 (.tmp 26) 2, type := 0, pos := "l09_jobs.go:249", after := #[⟨2, .data⟩], guard := none }) (v := ?_) rfl (by kernel_rfl) (by kernel_rfl) (by kernel_rfl) (fun _ _ _ h => h) (Or.inl ⟨by rfl, ?_⟩) hHeld ?_
  rotate_left
  · (intro wq hSw; (try dsimp only at hSw); first | (go_simp; done) | (go_simp; with_reducible rfl))
  try simp only [Act.put, qa, qb, qc]
  refine wpAnyH_take (i := 4) (oi := { dst := some 28, op := Op.load 25 (.tmp 27), type := 25, pos := "l09_jobs.go:249", after := #[⟨3, .data⟩], guard := none }) (v := ?_) rfl (by kernel_rfl) (by kernel_rfl) (by kernel_rfl) (fun _ _ _ h => h) (Or.inl ⟨by rfl, ?_⟩) hHeld ?_
  rotate_left
  · (intro wq hSw; (try dsimp only at hSw); first | (go_simp; done) | (go_simp; with_reducible rfl))
  try simp only [Act.put, qa, qb, qc]
  refine wpAnyH_take (i := 5) (oi := { dst := some 29, op := Op.move (.tmp 5), type := 3, pos := "l09_jobs.go:249", after := #[], guard := none }) (v := ?_) rfl (by kernel_rfl) (by kernel_rfl) (by kernel_rfl) (fun _ _ _ h => h) (Or.inl ⟨by rfl, ?_⟩) hHeld ?_
  rotate_left
  · (intro wq hSw; (try dsimp only at hSw); first | (go_simp; done) | (go_simp; with_reducible rfl))
  try simp only [Act.put, qa, qb, qc]
  refine wpAnyH_take (i := 6) (oi := { dst := some 30, op := Op.move (.tmp 0), type := 90, pos := "l09_jobs.go:249", after := #[], guard := none }) (v := ?_) rfl (by kernel_rfl) (by kernel_rfl) (by kernel_rfl) (fun _ _ _ h => h) (Or.inl ⟨by rfl, ?_⟩) hHeld ?_
  rotate_left
  · (intro wq hSw; (try dsimp only at hSw); first | (go_simp; done) | (go_simp; with_reducible rfl))
  try simp only [Act.put, qa, qb, qc]
  refine wpAnyH_take (i := 7) (oi := { dst := some 31, op := Op.nilCheck (.tmp 30), type := 0, pos := "l09_jobs.go:249", after := #[⟨6, .data⟩], guard := none }) (v := ?_) rfl (by kernel_rfl) (by kernel_rfl) (by kernel_rfl) (fun _ _ _ h => h) (Or.inl ⟨by rfl, ?_⟩) hHeld ?_
  rotate_left
  · (intro wq hSw; (try dsimp only at hSw); first | (go_simp; done) | (go_simp; with_reducible rfl))
  try simp only [Act.put, qa, qb, qc]
  refine wpAnyH_take (i := 8) (oi := { dst := some 32, op := Op.fieldAddr 98 (.tmp 31) 0, type := 0, pos := "l09_jobs.go:249", after := #[⟨7, .data⟩], guard := none }) (v := ?_) rfl (by kernel_rfl) (by kernel_rfl) (by kernel_rfl) (fun _ _ _ h => h) (Or.inl ⟨by rfl, ?_⟩) hHeld ?_
  rotate_left
  · (intro wq hSw; (try dsimp only at hSw); first | (go_simp; done) | (go_simp; with_reducible rfl))
  try simp only [Act.put, qa, qb, qc]
  refine wpAnyH_take (i := 9) (oi := { dst := some 33, op := Op.fieldAddr 28 (.tmp 32) 4, type := 0, pos := "l09_jobs.go:249", after := #[⟨8, .data⟩], guard := none }) (v := ?_) rfl (by kernel_rfl) (by kernel_rfl) (by kernel_rfl) (fun _ _ _ h => h) (Or.inl ⟨by rfl, ?_⟩) hHeld ?_
  rotate_left
  · (intro wq hSw; (try dsimp only at hSw); first | (go_simp; done) | (go_simp; with_reducible rfl))
  try simp only [Act.put, qa, qb, qc]
  refine wpAnyH_take (i := 10) (oi := { dst := some 34, op := Op.load 26 (.tmp 33), type := 26, pos := "l09_jobs.go:249", after := #[⟨9, .data⟩], guard := none }) (v := ?_) rfl (by kernel_rfl) (by kernel_rfl) (by kernel_rfl) (fun _ _ _ h => h) (Or.inl ⟨by rfl, ?_⟩) hHeld ?_
  rotate_left
  · (intro wq hSw; (try dsimp only at hSw); first | (go_simp; done) | (go_simp; with_reducible rfl))
  try simp only [Act.put, qa, qb, qc]
  refine wpAnyH_take (i := 11) (oi := { dst := some 35, op := Op.move (.tmp 5), type := 3, pos := "l09_jobs.go:249", after := #[{ on := 15, ground := Ground.gcOnly Departure.lateStores }], guard := none }) (v := ?_) rfl (by kernel_rfl) (by kernel_rfl) (by kernel_rfl) (fun _ _ _ h => h) (Or.inl ⟨by rfl, ?_⟩) hHeld ?_
  rotate_left
  · (intro wq hSw; (try dsimp only at hSw); first | (go_simp; done) | (go_simp; with_reducible rfl))
  try simp only [Act.put, qa, qb, qc]
  refine wpAnyH_take (i := 12) (oi := { dst := some 36, op := Op.move (.tmp 6), type := 26, pos := "l09_jobs.go:249", after := #[], guard := none }) (v := ?_) rfl (by kernel_rfl) (by kernel_rfl) (by kernel_rfl) (fun _ _ _ h => h) (Or.inl ⟨by rfl, ?_⟩) hHeld ?_
  rotate_left
  · (intro wq hSw; (try dsimp only at hSw); first | (go_simp; done) | (go_simp; with_reducible rfl))
  try simp only [Act.put, qa, qb, qc]
  refine wpAnyH_take (i := 13) (oi := { dst := some 37, op := Op.call { callee := Callee.builtin Builtin.len, args := #[.tmp 36], argTypes := #[26] }, type := 3, pos := "l09_jobs.go:249", after := #[⟨12, .data⟩], guard := none }) (v := ?_) rfl (by kernel_rfl) (by kernel_rfl) (by kernel_rfl) (fun _ _ _ h => h) (Or.inl ⟨by rfl, ?_⟩) hHeld ?_
  rotate_left
  · (intro wq hSw; (try dsimp only at hSw); first | (go_simp; done) | (go_simp; with_reducible rfl))
  try simp only [Act.put, qa, qb, qc]
  refine wpAnyH_take (i := 14) (oi := { dst := some 38, op := Op.indexAddr 25 (.tmp 28) (.tmp 29), type := 0, pos := "l09_jobs.go:249", after := #[⟨4, .data⟩, ⟨5, .data⟩, ⟨0, .phase⟩, ⟨1, .phase⟩, ⟨2, .phase⟩, ⟨3, .phase⟩, ⟨4, .phase⟩, ⟨5, .phase⟩, { on := 6, ground := Ground.textOnly Departure.lateStores }, { on := 7, ground := Ground.textOnly Departure.lateStoresUnsure }, { on := 8, ground := Ground.textOnly Departure.lateStoresUnsure }, { on := 9, ground := Ground.textOnly Departure.lateStoresUnsure }, ⟨10, .phase⟩, { on := 11, ground := Ground.textOnly Departure.lateStores }, { on := 12, ground := Ground.textOnly Departure.lateStores }, { on := 13, ground := Ground.textOnly Departure.lateStoresUnsure }], guard := none }) (v := ?_) rfl (by kernel_rfl) (by kernel_rfl) (by kernel_rfl) (fun _ _ _ h => h) (Or.inl ⟨by rfl, ?_⟩) hHeld ?_
  rotate_left
  · (intro wq hSw; (try dsimp only at hSw); first | (go_simp; done) | (go_simp; with_reducible rfl))
  try simp only [Act.put, qa, qb, qc]
  refine wpAnyH_ready (rs := [15]) (by kernel_rfl) (by simp) ?_
  refine AllReadyH.cons (o := { dst := none, op := Op.store 4 (.tmp 38) (.const (Value.bool true)), type := 0, pos := "l09_jobs.go:249", after := #[⟨14, .data⟩, ⟨0, .phase⟩, ⟨1, .phase⟩, ⟨2, .phase⟩, ⟨3, .phase⟩, ⟨4, .phase⟩, ⟨5, .phase⟩, { on := 6, ground := Ground.textOnly Departure.lateStores }, { on := 7, ground := Ground.textOnly Departure.lateStoresUnsure }, { on := 8, ground := Ground.textOnly Departure.lateStoresUnsure }, { on := 9, ground := Ground.textOnly Departure.lateStoresUnsure }, ⟨10, .phase⟩, { on := 11, ground := Ground.textOnly Departure.lateStores }, { on := 12, ground := Ground.textOnly Departure.lateStores }, { on := 13, ground := Ground.textOnly Departure.lateStoresUnsure }], guard := none }) rfl (fun K hK => ?_) AllReadyH.nil
  go_simp
  skip
  refine hK.out _ _ ?_ (fun hHeldN => ?_)
  · exact ⟨cell_drew (cell_far y2 ng3), cell_drew (cell_far y4 ng3)⟩
  clear hK K hHeld
  have hHeld := hHeldN
  clear hHeldN
  try simp only [Act.put, qa, qb, qc]
  refine wpAnyH_take (i := 16) (oi := { dst := some 39, op := Op.indexAddr 26 (.tmp 34) (.tmp 35), type := 0, pos := "l09_jobs.go:249", after := #[⟨10, .data⟩, ⟨11, .data⟩, ⟨0, .phase⟩, ⟨1, .phase⟩, ⟨2, .phase⟩, ⟨3, .phase⟩, ⟨4, .phase⟩, ⟨5, .phase⟩, ⟨6, .phase⟩, ⟨7, .phase⟩, ⟨8, .phase⟩, ⟨9, .phase⟩, ⟨10, .phase⟩, ⟨11, .phase⟩, ⟨12, .phase⟩, ⟨13, .phase⟩, ⟨14, .phase⟩, ⟨15, .phase⟩], guard := none }) (v := ?_) rfl (by kernel_rfl) (by kernel_rfl) (by kernel_rfl) (fun _ _ _ h => h) (Or.inl ⟨by rfl, ?_⟩) hHeld ?_
  rotate_left
  · (intro wq hSw; (try dsimp only at hSw); first | (go_simp; done) | (go_simp; with_reducible rfl))
  try simp only [Act.put, qa, qb, qc]
  refine wpAnyH_ready (rs := [17]) (by kernel_rfl) (by simp) ?_
  refine AllReadyH.cons (o := { dst := none, op := Op.store 3 (.tmp 39) (.tmp 37), type := 0, pos := "l09_jobs.go:249", after := #[⟨16, .data⟩, ⟨13, .data⟩, ⟨15, .chain⟩, ⟨0, .phase⟩, ⟨1, .phase⟩, ⟨2, .phase⟩, ⟨3, .phase⟩, ⟨4, .phase⟩, ⟨5, .phase⟩, ⟨6, .phase⟩, ⟨7, .phase⟩, ⟨8, .phase⟩, ⟨9, .phase⟩, ⟨10, .phase⟩, ⟨11, .phase⟩, ⟨12, .phase⟩, ⟨13, .phase⟩, ⟨14, .phase⟩, ⟨15, .phase⟩], guard := none }) rfl (fun K hK => ?_) AllReadyH.nil
  go_simp
  skip
  refine hK.out _ _ ?_ (fun hHeldN => ?_)
  · exact ⟨cell_drew (cell_far (cell_far y2 ng3) ng5), cell_drew (cell_far (cell_far y4 ng3) ng5)⟩
  clear hK K hHeld
  have hHeld := hHeldN
  clear hHeldN
  try simp only [Act.put, qa, qb, qc]
  refine wpAnyH_done (by kernel_rfl) ?_ _
  clear hHeld
  go_upto_region 5 with fail
  rw [← hw3]
  clear hw3 y2 y4 xd zd xl5 zl5 ng3 ng5 n35 lb3 lb5
  by_cases hm0 : m = 0
  · have kF := hide (finish_any f2 B g qp _ (J + 1) (ranP p W J r) J w3 (by omega) (by
      have h1 := hTk.out
      rw [if_pos hm0] at h1
      exact hide h1) hsz hC3)
    have hT2 := hide (show takeP p W = finP (J + 1) (ranP p W J r) J from by rw [hT.out, if_pos hm0])
    subst hm0
    go_wp2_with (go_at_call 126; refine kF.out.mono ?_; rintro e w4 ⟨rfl, hC4, hO4⟩)
    go_end0
    exact ⟨rfl, f2, _, by rw [hT2.out]; exact hC4, hO.out.then_ hff.out hO4, hff.out⟩
  · have hT2 := hide (show takeP p W = ranP p W J r from by rw [hT.out, if_neg hm0])
    have hmi : ¬ ((m : Int) = 0) := by omega
    have hmb : ((m : Int) == 0) = false := by simpa using hmi
    go_wp2_with fail
    go_end0
    refine ⟨rfl, f2, ⟨updV (updV x.rv W (.slice (some ⟨qR, oR, none⟩) n cR)) W v2, ?_⟩, hO.out, hff.out⟩
    rw [hT2.out]
    exact hC3.out
end Go.Proofs.Ytfnphnjadknoaaa
