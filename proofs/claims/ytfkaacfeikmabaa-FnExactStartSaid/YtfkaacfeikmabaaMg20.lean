/- laws.State, opened: its nine pieces as they are read. · An argument that is a state: its size, its copy. -/
import Derived.Test.YtfkaacfeikmabaaMg13
import Derived.Test.YtfkaacfeikmabaaMg14
import Derived.Test.YtfkaacfeikmabaaMg18
import Derived.Test.YtfkaacfeikmabaaMg19
namespace Go.Proofs.Ytfkaacfeikmabaa
open Go.RowKit Go.Joins Go.ChangeShapes Go.WideShapes Go.Deep

section
variable {H : Type} {enc : TypeId × Value → H} {P : Program} {w : World} {base : Nat} {spare : Nat → Bool} {held : Bool}
theorem open_aggn {r : Reach} {b0 : Nat} {t : TypeId} {fs : Array Field} {k : Nat} {v : Value} {d : DataW H} {p : List MemPlace} (hs : P.underlying t = some (.struct fs)) (hone : oneCellFields P fs = true) (hC : P.cellsOf t = k) (hk : fs.size = k)
    (hv : Value.okWide P w r b0 t v) (h : DataW.Trod enc P w base spare held t v d p) :
    ∃ (l : List Value) (n : Nat), v = .agg ⟨l⟩ ∧ l.length = k ∧ ∀ (j : Nat) (f : Field), fs[j]? = some f → ∃ c y, l[j]? = some c ∧ DataW.trod enc P w base spare held n f.type [c] = some y := by
  obtain ⟨cs, rfl, hsz⟩ := okWide_struct hs hv
  obtain ⟨l⟩ := cs
  have hl : l.length = k := hsz.trans hC
  obtain ⟨fuel, hf⟩ := h
  obtain ⟨xs, n, _, hx, _, hlen, hg⟩ := DataW.trod_struct hs hf
  refine ⟨l, n, rfl, hl, fun j f hfj => ?_⟩
  have hj : j < fs.size := by
    rcases Nat.lt_or_ge j fs.size with h | h
    · exact h
    · rw [Array.getElem?_eq_none h] at hfj; cases hfj
  obtain ⟨o0, k0⟩ := hone_of hone j f hfj
  have g0 := hg j f hfj
  rw [k0, o0] at g0
  have hj2 : j < l.length := by omega
  simp only [Value.cells] at g0
  have e0 : (l.drop j).take 1 = [l[j]] := by
    rw [List.drop_eq_getElem_cons hj2, List.take_succ_cons, List.take_zero]
  rw [e0] at g0
  obtain ⟨y, hy⟩ : ∃ y, xs[j]? = some y := ⟨_, List.getElem?_eq_getElem (by omega)⟩
  rw [hy] at g0
  exact ⟨l[j], y, List.getElem?_eq_getElem hj2, g0⟩
end

/-- What is known of an element of a row of files; of a row of buffers. -/
def FileR (w : World) (n : Nat) (r : RowD) (v : Value) : Prop := v = .slice r.A r.n r.c ∧ r.n ≤ 9223372036854775807 ∧ r.zs.length = r.n ∧ IntsAt w (Old n) r.A r.zs ∧ IntsWf r.zs
def BufR (w : World) (n : Nat) (r : RowD) (v : Value) : Prop := v = .slice r.A r.n r.c ∧ r.n ≤ 9223372036854775807 ∧ (r.n ≤ 1048576 → r.zs.length = r.n * 2 ∧ IntsAt w (Old n) r.A r.zs)
/-- A row that came in. -/
structure RowIn (w : World) (n : Nat) (R : World → Nat → RowD → Value → Prop) (r : RowsP) : Prop where
  len : r.rs.length = r.n
  big : r.rs.length ≤ 9223372036854775807
  cap : r.n ≤ r.c
  row : 0 < r.rs.length → ∃ b off, r.A = some ⟨b, off, none⟩ ∧ b < n ∧ ∀ k, k < r.rs.length → ∃ c0, w.cell? ⟨b, off + k, none⟩ = some c0 ∧ R w n (getr r.rs k) c0
/-- A state that came in, in blocks below n. -/
structure StArg (w : World) (n : Nat) (s : StD) : Prop where
  pc : IntsAt w (Old n) s.pc.A s.pc.zs ∧ s.pc.zs.length = s.pc.n ∧ IntsWf s.pc.zs
  F : RowIn w n FileR s.F
  mem : IntsAt w (Old n) s.mem.A s.mem.zs ∧ s.mem.zs.length = s.mem.n ∧ IntsWf s.mem.zs
  bufs : RowIn w n BufR s.bufs
  H : HistsAt w (Old n) s.H.A s.H.hs ∧ s.H.hs.length = s.H.n ∧ ∀ k, k < s.H.hs.length → IdsWf (geth s.H.hs k)
  view : RowIn w n FileR s.view
  sc : IntsAt w (Old n) s.sc.A s.sc.zs ∧ s.sc.zs.length = s.sc.n ∧ IntsWf s.sc.zs
  nums : (Lit.int .i64 s.kind).wf = true ∧ (Lit.int .i64 s.next).wf = true
  sz : n ≤ w.heap.size
section
variable {w w' : World} {n : Nat} {s : StD}
theorem FileR.below {r : RowD} {v : Value} (h : FileR w n r v) (hb : Below n w w') : FileR w' n r v := ⟨h.1, h.2.1, h.2.2.1, h.2.2.2.1.below hb (fun _ h => h), h.2.2.2.2⟩
theorem BufR.below {r : RowD} {v : Value} (h : BufR w n r v) (hb : Below n w w') : BufR w' n r v := ⟨h.1, h.2.1, fun k => ⟨(h.2.2 k).1, (h.2.2 k).2.below hb (fun _ h => h)⟩⟩
theorem RowIn.below {R : World → Nat → RowD → Value → Prop} {r : RowsP} (h : RowIn w n R r) (hb : Below n w w') (hR : ∀ r v, R w n r v → R w' n r v) : RowIn w' n R r :=
  ⟨h.len, h.big, h.cap, fun hp => by
    obtain ⟨b, off, e, h1, h2⟩ := h.row hp
    refine ⟨b, off, e, h1, fun k hk => ?_⟩
    obtain ⟨c0, h3, h4⟩ := h2 k hk
    exact ⟨c0, (hb.cell (p := ⟨b, off + k, none⟩) h1).trans h3, hR _ _ h4⟩⟩
theorem StArg.next (h : StArg w n s) (hb : Below n w w') : StArg w' n s :=
  ⟨⟨h.pc.1.below hb (fun _ h => h), h.pc.2⟩, h.F.below hb (fun _ _ k => k.below hb), ⟨h.mem.1.below hb (fun _ h => h), h.mem.2⟩, h.bufs.below hb (fun _ _ k => k.below hb), ⟨h.H.1.below hb (fun _ h => h), h.H.2⟩, h.view.below hb (fun _ _ k => k.below hb), ⟨h.sc.1.below hb (fun _ h => h), h.sc.2⟩, h.nums, Nat.le_trans h.sz hb.size⟩
end

theorem cellsOfPostS : Try.prog.cellsOf 240 = 4 := by kernel_rfl
theorem cellsOfHistSt : Try.prog.cellsOf 193 = 1 := by kernel_rfl
theorem cellsOfIntSt : Try.prog.cellsOf 3 = 1 := by kernel_rfl
theorem cellsOfWaitSt : Try.prog.cellsOf 242 = 2 := by kernel_rfl
theorem cellsOfBufSt : Try.prog.cellsOf 189 = 1 := by kernel_rfl
theorem cellsOfFileSt : Try.prog.cellsOf 67 = 1 := by kernel_rfl
theorem cellsOfState : Try.prog.cellsOf 58 = 9 := by kernel_rfl

section
variable {H : Type} {enc : TypeId × Value → H} {W : World} {spare : Nat → Bool} {held : Bool}
set_option maxRecDepth 100000 in
theorem open_row_files {fuel : Nat} {v : Value} {x : DataW H × List MemPlace} (h : DataW.trod enc Try.prog W 0 spare held fuel 54 [v] = some x) : ∃ r : RowsP, v = .slice r.A r.n r.c ∧ RowIn W W.heap.size FileR r := by
  obtain ⟨A, l, c, rfl, hc, hl, hr⟩ := trod_heads row0 (fun (r : RowD) (v : Value) => FileR W W.heap.size r v) Try.underlying54 Try.underlying67 (by kernel_rfl) cellsOfFileSt rfl (fun n c0 y0 hy => by
    obtain ⟨A, zs, c, rfl, _, hi, hw⟩ := trod_ints_wf Try.underlying22 Try.underlying3 cellsOfIntSt hy
    exact ⟨⟨0, 0, A, zs.length, c, zs⟩, rfl, hi.1, rfl, hi, hw⟩) h
  exact ⟨⟨0, 0, A, l.length, c, l⟩, rfl, rfl, hl, hc, hr⟩
set_option maxRecDepth 100000 in
theorem open_row_bufs {fuel : Nat} {v : Value} {x : DataW H × List MemPlace} (h : DataW.trod enc Try.prog W 0 spare held fuel 55 [v] = some x) : ∃ r : RowsP, v = .slice r.A r.n r.c ∧ RowIn W W.heap.size BufR r := by
  obtain ⟨A, l, c, rfl, hc, hl, hr⟩ := trod_heads row0 (fun (r : RowD) (v : Value) => BufR W W.heap.size r v) Try.underlying55 Try.underlying189 (by kernel_rfl) cellsOfBufSt rfl (fun n c0 y0 hy => by
    obtain ⟨A, m, c, rfl, _, hn, hz⟩ := trod_flat Try.underlying187 Try.underlying242 (by kernel_rfl) cellsOfWaitSt (by omega) rfl (ti := 3) (fun i f hf => by
      rcases i with _ | _ | i
      · cases hf; rfl
      · cases hf; rfl
      · simp at hf) Try.underlying3 hy
    by_cases hm : m ≤ 1048576
    · obtain ⟨zs, h1, h2⟩ := hz (by omega)
      exact ⟨⟨0, 0, A, m, c, zs⟩, rfl, hn, fun _ => ⟨h1, h2⟩⟩
    · exact ⟨⟨0, 0, A, m, c, []⟩, rfl, hn, fun h => absurd h hm⟩) h
  exact ⟨⟨0, 0, A, l.length, c, l⟩, rfl, rfl, hl, hc, hr⟩
set_option maxRecDepth 100000 in
theorem open_state {r : Reach} {b0 : Nat} {v : Value} {d : DataW H} {p : List MemPlace} (hv : Value.okWide Try.prog W r b0 58 v) (h : DataW.Trod enc Try.prog W 0 spare held 58 v d p) :
    ∃ s : StD, v = .agg s.cells ∧ StArg W W.heap.size s := by
  obtain ⟨l, n, rfl, hl, hf⟩ := open_aggn Try.underlying58 (by kernel_rfl) cellsOfState rfl hv h
  match l, hl with
  | [c0, c1, c2, c3, c4, c5, c6, c7, c8], _ =>
    obtain ⟨x0, y0, e0, g0⟩ := hf 0 _ rfl
    obtain ⟨x1, y1, e1, g1⟩ := hf 1 _ rfl
    obtain ⟨x2, y2, e2, g2⟩ := hf 2 _ rfl
    obtain ⟨x3, y3, e3, g3⟩ := hf 3 _ rfl
    obtain ⟨x4, y4, e4, g4⟩ := hf 4 _ rfl
    obtain ⟨x5, y5, e5, g5⟩ := hf 5 _ rfl
    obtain ⟨x6, y6, e6, g6⟩ := hf 6 _ rfl
    obtain ⟨x7, y7, e7, g7⟩ := hf 7 _ rfl
    obtain ⟨x8, y8, e8, g8⟩ := hf 8 _ rfl
    clear hf
    cases e0; cases e1; cases e2; cases e3; cases e4; cases e5; cases e6; cases e7; cases e8
    obtain ⟨kd, t0, _, w0⟩ := DataW.trod_int Try.underlying3 g0
    obtain ⟨nx, t8, _, w8⟩ := DataW.trod_int Try.underlying3 g8
    simp only [List.cons.injEq, and_true] at t0 t8
    subst t0 t8
    obtain ⟨A1, z1, k1, rfl, _, i1, f1⟩ := trod_ints_wf Try.underlying22 Try.underlying3 cellsOfIntSt g1
    obtain ⟨r2, rfl, q2⟩ := open_row_files g2
    obtain ⟨A3, z3, k3, rfl, _, i3, f3⟩ := trod_ints_wf Try.underlying22 Try.underlying3 cellsOfIntSt g3
    obtain ⟨r4, rfl, q4⟩ := open_row_bufs g4
    obtain ⟨A5, hs, k5, rfl, _, i5, f5⟩ := trod_hists Try.underlying56 Try.underlying193 (by kernel_rfl) cellsOfHistSt rfl Try.underlying191 Try.underlying240 (by kernel_rfl) cellsOfPostS ⟨rfl, rfl, rfl, rfl⟩ Try.underlying3 cellsOfIntSt Try.underlying4 Try.underlying22 g5
    obtain ⟨r6, rfl, q6⟩ := open_row_files g6
    obtain ⟨A7, z7, k7, rfl, _, i7, f7⟩ := trod_ints_wf Try.underlying22 Try.underlying3 cellsOfIntSt g7
    exact ⟨⟨kd, ⟨0, 0, A1, z1.length, k1, z1⟩, r2, ⟨0, 0, A3, z3.length, k3, z3⟩, r4, ⟨0, 0, A5, hs.length, k5, hs, fun _ => 0, fun _ => 0, fun _ => 0, fun _ _ => 0⟩, r6, ⟨0, 0, A7, z7.length, k7, z7⟩, nx⟩, rfl,
      ⟨⟨i1, rfl, f1⟩, q2, ⟨i3, rfl, f3⟩, q4, ⟨i5, rfl, f5⟩, q6, ⟨i7, rfl, f7⟩, ⟨w0, w8⟩, Nat.le_refl _⟩⟩
end
end Go.Proofs.Ytfkaacfeikmabaa

namespace Go.Proofs.Ytfkaacfeikmabaa
open Go.RowKit

def stSize (s : StD) : Nat := s.pc.n + headSize (rns s.F.rs) + s.mem.n + headSize (rns s.bufs.rs) + histSize s.H.hs + headSize (rns s.view.rs) + s.sc.n
theorem getl_rns (rs : List RowD) (k : Nat) : getl (rns rs) k = (getr rs k).n := rns_get rs k
theorem getl_le (ls : List Nat) (k : Nat) (hk : k < ls.length) : getl ls k ≤ ls.sum := by
  have h1 := sumTo_succ ls k hk
  have h2 := sumTo_le ls (k + 1)
  unfold getl
  omega
section
variable {w w' : World} {n : Nat} {s : StD} {r : RowsP} {R : World → Nat → RowD → Value → Prop}
theorem RowIn.heads (h : RowIn w n R r) (hR : ∀ a v, R w n a v → v = .slice a.A a.n a.c ∧ a.n ≤ 9223372036854775807) : HeadsAt w (Old n) r.A (rns r.rs) := by
  refine ⟨by rw [rns_len]; exact h.big, fun hp => ?_⟩
  rw [rns_len] at hp
  obtain ⟨b, off, e, hb, hc⟩ := h.row hp
  refine ⟨b, off, e, hb, fun k hk => ?_⟩
  rw [rns_len] at hk
  obtain ⟨c0, h1, h2⟩ := hc k hk
  obtain ⟨rfl, h3⟩ := hR _ _ h2
  rw [getl_rns]
  exact ⟨_, _, h1, h3⟩
theorem row_small {rs : List RowD} (h : headSize (rns rs) ≤ 1048576) : rs.length ≤ 1048576 ∧ ∀ k, k < rs.length → (getr rs k).n ≤ 1048576 := by
  unfold headSize at h
  rw [rns_len] at h
  refine ⟨by omega, fun k hk => ?_⟩
  have := getl_le (rns rs) k (by rw [rns_len]; exact hk)
  rw [getl_rns] at this
  omega
theorem RowIn.files (h : RowIn w n FileR r) (hs : headSize (rns r.rs) ≤ 1048576) : RowsAt w (Old n) r.A r.rs ∧ ∀ k, k < r.rs.length → (getr r.rs k).zs.length = (getr r.rs k).n ∧ (getr r.rs k).n ≤ 1048576 := by
  obtain ⟨h1, h2⟩ := row_small hs
  refine ⟨⟨h1, fun hp => ?_⟩, fun k hk => ⟨?_, h2 k hk⟩⟩
  · obtain ⟨b, off, e, hb, hc⟩ := h.row hp
    refine ⟨b, off, e, hb, fun k hk => ?_⟩
    obtain ⟨c0, q1, rfl, q2, q3, q4, q5⟩ := hc k hk
    exact ⟨_, _, q1, q4⟩
  · obtain ⟨b, off, e, hb, hc⟩ := h.row (by omega)
    obtain ⟨c0, q1, rfl, q2, q3, q4, q5⟩ := hc k hk
    exact q3
theorem RowIn.buffs (h : RowIn w n BufR r) (hs : headSize (rns r.rs) ≤ 1048576) : RowsAt w (Old n) r.A r.rs ∧ ∀ k, k < r.rs.length → (getr r.rs k).zs.length = (getr r.rs k).n * 2 ∧ (getr r.rs k).n ≤ 1048576 := by
  obtain ⟨h1, h2⟩ := row_small hs
  refine ⟨⟨h1, fun hp => ?_⟩, fun k hk => ⟨?_, h2 k hk⟩⟩
  · obtain ⟨b, off, e, hb, hc⟩ := h.row hp
    refine ⟨b, off, e, hb, fun k hk => ?_⟩
    obtain ⟨c0, q1, rfl, q2, q3⟩ := hc k hk
    exact ⟨_, _, q1, (q3 (h2 k hk)).2⟩
  · obtain ⟨b, off, e, hb, hc⟩ := h.row (by omega)
    obtain ⟨c0, q1, rfl, q2, q3⟩ := hc k hk
    exact (q3 (h2 k hk)).1
theorem szStateI (h : StArg w n s) (left : Int) (h0 : 0 ≤ left) (h1 : left ≤ 1048576) :
    Calls Try.prog 32 #[.agg s.cells, .int .i64 left] w fun e w' => e = .returned (.int .i64 (szR left (stSize s))) ∧ Below w.heap.size w w' := by
  have hS : ∀ b, Old n b → Old w.heap.size b := fun b hb => Nat.lt_of_lt_of_le hb h.sz
  have k := szState_any s.pc.A s.F.A s.mem.A s.bufs.A s.H.A s.view.A s.sc.A s.pc.c s.F.c s.mem.c s.bufs.c s.H.c s.view.c s.sc.c s.pc.n s.mem.n s.sc.n (rns s.F.rs) (rns s.bufs.rs) (rns s.view.rs) s.H.hs s.kind s.next left w h0 h1
    (by have := h.pc.1.1; have := h.pc.2.1; omega) (by have := h.mem.1.1; have := h.mem.2.1; omega) (by have := h.sc.1.1; have := h.sc.2.1; omega)
    ((h.F.heads (fun _ _ k => ⟨k.1, k.2.1⟩)).more hS) ((h.bufs.heads (fun _ _ k => ⟨k.1, k.2.1⟩)).more hS) (h.H.1.more hS) ((h.view.heads (fun _ _ k => ⟨k.1, k.2.1⟩)).more hS)
  rw [rns_len, rns_len, rns_len, h.F.len, h.bufs.len, h.view.len, h.H.2.1] at k
  exact k
/-- All of it is small. -/
structure StSm (s : StD) : Prop where
  pc : s.pc.n ≤ 1048576
  mem : s.mem.n ≤ 1048576
  sc : s.sc.n ≤ 1048576
  H : histSize s.H.hs ≤ 1048576
theorem stSize_sm (h : stSize s ≤ 1048576) : StSm s ∧ headSize (rns s.F.rs) ≤ 1048576 ∧ headSize (rns s.bufs.rs) ≤ 1048576 ∧ headSize (rns s.view.rs) ≤ 1048576 := by
  unfold stSize at h
  exact ⟨⟨by omega, by omega, by omega, by omega⟩, by omega, by omega, by omega⟩
theorem toStateI (h : StArg w n s) (hz : stSize s ≤ 1048576) :
    Calls Try.prog 34 #[.agg s.cells] w fun e w' => ∃ d : StD, e = .returned (.agg d.cells) ∧ StIn w' d ∧ (∀ i, i < 7 → w.heap.size ≤ (d.iv i).1) ∧ SameSt s d ∧ Below w.heap.size w w' := by
  have hS : ∀ b, Old n b → Old w.heap.size b := fun b hb => Nat.lt_of_lt_of_le hb h.sz
  obtain ⟨m, m2, m4, m6⟩ := stSize_sm hz
  obtain ⟨f2, g2⟩ := h.F.files m2
  obtain ⟨f4, g4⟩ := h.bufs.buffs m4
  obtain ⟨f6, g6⟩ := h.view.files m6
  have k := toState_to s.pc.A s.F.A s.mem.A s.bufs.A s.H.A s.view.A s.sc.A s.pc.c s.F.c s.mem.c s.bufs.c s.H.c s.view.c s.sc.c s.pc.n s.mem.n s.sc.n s.pc.zs s.mem.zs s.sc.zs s.F.rs s.bufs.rs s.view.rs s.H.hs s.kind s.next w
    ⟨h.pc.2.1, m.pc⟩ ⟨h.mem.2.1, m.mem⟩ ⟨h.sc.2.1, m.sc⟩ g2 g4 g6 m.H (h.pc.1.more hS) (f2.more hS) (h.mem.1.more hS) (f4.more hS) (h.H.1.more hS) (f6.more hS) (h.sc.1.more hS)
  rw [h.F.len, h.bufs.len, h.view.len, h.H.2.1] at k
  refine k.mono ?_
  rintro e w' ⟨d, rfl, hi, hl, ⟨⟨q1, q2⟩, q3, q4, q5, q6, q7, q8, q9⟩, hb⟩
  exact ⟨d, rfl, hi, hl, ⟨q1.symm, ⟨q3.1.symm, q3.2.symm⟩, q4, ⟨q5.1.symm, q5.2.symm⟩, q6, q7.symm, q8, ⟨q9.1.symm, q9.2.symm⟩, q2.symm⟩, hb⟩
theorem SameRows.symm {a b : List RowD} (h : SameRows a b) : SameRows b a := ⟨h.1.symm, fun k hk => ⟨(h.2 k (by rw [h.1]; exact hk)).1.symm, (h.2 k (by rw [h.1]; exact hk)).2.symm⟩⟩
theorem SameRows.trans {a b c : List RowD} (h : SameRows a b) (k : SameRows b c) : SameRows a c := ⟨h.1.trans k.1, fun j hj => ⟨(h.2 j hj).1.trans (k.2 j (by rw [← h.1]; exact hj)).1, (h.2 j hj).2.trans (k.2 j (by rw [← h.1]; exact hj)).2⟩⟩
theorem SameSt.symm {a b : StD} (h : SameSt a b) : SameSt b a := ⟨h.kind.symm, ⟨h.pc.1.symm, h.pc.2.symm⟩, h.F.symm, ⟨h.mem.1.symm, h.mem.2.symm⟩, h.bufs.symm, h.H.symm, h.view.symm, ⟨h.sc.1.symm, h.sc.2.symm⟩, h.next.symm⟩
theorem SameSt.trans {a b c : StD} (h : SameSt a b) (k : SameSt b c) : SameSt a c := ⟨h.kind.trans k.kind, ⟨h.pc.1.trans k.pc.1, h.pc.2.trans k.pc.2⟩, h.F.trans k.F, ⟨h.mem.1.trans k.mem.1, h.mem.2.trans k.mem.2⟩, h.bufs.trans k.bufs, h.H.trans k.H, h.view.trans k.view, ⟨h.sc.1.trans k.sc.1, h.sc.2.trans k.sc.2⟩, h.next.trans k.next⟩
end
end Go.Proofs.Ytfkaacfeikmabaa
