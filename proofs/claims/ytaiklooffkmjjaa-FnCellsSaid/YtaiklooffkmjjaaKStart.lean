/- kindStart of KdBuf: the beginning of a program with buffers. -/
import Derived.Test.YtaiklooffkmjjaaCoStart
import Derived.Test.YtaiklooffkmjjaaQFr
import Derived.Test.YtaiklooffkmjjaaToP
namespace Go.Proofs.Ytaiklooffkmjjaa
open Go.RowKit

attribute [local go_sem ↓] Go.wp_at_zero Go.wp_at_succ

theorem Try.infoBuf : (Try.prog.info? 134).map (fun i => (i.zero, i.size, i.bytes)) = some (some (.agg #[.slice none 0 0]), 1, 24) := by kernel_rfl
theorem make_bufs (n : Nat) (hn : n ≤ 1048576) (W : World) : (Instr.makeSlice 74 (.int .i64 (n : Int)) (.int .i64 (n : Int))).run Try.prog W = .ok (.slice (some ⟨W.heap.size, 0, none⟩) n n) (W.alloc (.cells (zrow #[.slice none 0 0] n) 134)) := by
  obtain ⟨i0, hi, hz0, hz1, hz2⟩ := info_parts Try.infoBuf
  have hr := run_make (P := Try.prog) W 74 134 i0 _ Try.underlying74 hi hz0 .i64 .i64 n n (by omega) (Int.le_refl _) (by rw [hz2]; omega) (by omega)
  simp only [Int.toNat_natCast, hz1, Nat.mul_one] at hr
  exact hr

/-- The threads' numbers and files of a beginning, in memory behind w0. -/
structure KsAt (w0 : World) (n2 qp : Nat) (fv : Value) (fs : List Value) (w : World) : Prop where
  pcs : RowB w qp (zeros n2) ∧ w0.heap.size ≤ qp
  rows : w.ownsRow w0.heap.size 32 1 fv fs.length fs
  files : FilesNew w w0.heap.size fs
  below : Below w0.heap.size w0 w
/-- The program's box and the box of what is common. -/
structure KsRd (g T : Nat) (a b p f : Value) (w : World) : Prop where
  box : Blk w g 43 #[a, b]
  com : Blk w T 105 #[a, b, p, f]
section
variable {w0 w w' : World} {n2 qp g T : Nat} {fv a b p f : Value} {fs : List Value}
theorem KsAt.next (h : KsAt w0 n2 qp fv fs w) (hb : Below w.heap.size w w') : KsAt w0 n2 qp fv fs w' :=
  ⟨⟨h.pcs.1.below hb, h.pcs.2⟩, own_keep h.rows (fun b _ hlt => hb.block b hlt), fun u hu => by obtain ⟨q, e, h1, h2⟩ := h.files u hu; exact ⟨q, e, h1.below hb, h2⟩, below_then h.below hb⟩
theorem KsAt.alloc (h : KsAt w0 n2 qp fv fs w) (o : Obj) : KsAt w0 n2 qp fv fs (w.alloc o) := h.next (below1 w o)
theorem KsAt.drew (h : KsAt w0 n2 qp fv fs w) : KsAt w0 n2 qp fv fs w.drew := ⟨h.pcs, h.rows, h.files, h.below.drew⟩
theorem KsRd.next (h : KsRd g T a b p f w) (hb : Below w.heap.size w w') : KsRd g T a b p f w' := ⟨h.box.below hb h.box.lt, h.com.below hb h.com.lt⟩
theorem KsRd.alloc (h : KsRd g T a b p f w) (o : Obj) : KsRd g T a b p f (w.alloc o) := h.next (below1 w o)
theorem KsRd.drew (h : KsRd g T a b p f w) : KsRd g T a b p f w.drew := ⟨h.box, h.com⟩
theorem KsRd.cells (h : KsRd g T a b p f w) : w.cell? ⟨g, 0, none⟩ = some a ∧ w.cell? ⟨g, 1, none⟩ = some b ∧ w.cell? ⟨T, 0, none⟩ = some a ∧ w.cell? ⟨T, 1, none⟩ = some b ∧ w.cell? ⟨T, 2, none⟩ = some p ∧ w.cell? ⟨T, 3, none⟩ = some f :=
  ⟨h.box.cell 0, h.box.cell 1, h.com.cell 0, h.com.cell 1, h.com.cell 2, h.com.cell 3⟩
theorem KsRd.lt (h : KsRd g T a b p f w) : g < w.heap.size ∧ T < w.heap.size := ⟨h.box.lt, h.com.lt⟩
end

set_option maxRecDepth 100000 in
set_option maxHeartbeats 6400000 in
theorem kindStart_buf (A1 A2 : Option Addr) (zs : List Int) (n2 c1 c2 : Nat) (w : World) (hn : n2 ≤ 3) (hz : 0 < zs.length) (hz2 : zs.length ≤ 100) (hS : IntsAt w (Old w.heap.size) A1 zs) :
    Calls Try.prog 75 #[.agg #[.slice A1 zs.length c1, .slice A2 n2 c2], .int .i64 1] w fun e w' => ∃ (qp : Nat) (fv : Value) (fs : List Value) (qm cm qb : Nat), e = .returned (.iface 109 (.agg #[.slice A1 zs.length c1, .slice A2 n2 c2, .slice (some ⟨qp, 0, none⟩) n2 n2, fv, .slice (some ⟨qm, 0, none⟩) zs.length cm, .slice (some ⟨qb, 0, none⟩) n2 n2])) ∧ fs.length = n2 ∧ KsAt w n2 qp fv fs w' ∧ (RowB w' qm zs ∧ w.heap.size ≤ qm) ∧ Blk w' qb 134 (zrow #[.slice none 0 0] n2) ∧ w.heap.size ≤ qb := by
  have hmk := make_bufs n2 (by omega)
  have hIn : ∀ wX, Below w.heap.size w wX → IntsAt wX (Old wX.heap.size) A1 zs := fun wX h => (hS.below h (fun _ h => h)).more (fun _ k => Nat.lt_of_lt_of_le k h.size)
  replace hIn := hide hIn
  have hb0 := hide (below1 w (Obj.cells #[.slice A1 zs.length c1, .slice A2 n2 c2] 43))
  have hbx := hide (Blk.new w 43 #[Value.slice A1 zs.length c1, Value.slice A2 n2 c2])
  clear hS
  go_enter Try.func75, Try.ntmps75
  go_wp2_with fail
  refine (commonStart_any A1 A2 zs.length n2 c1 c2 _ hn).mono ?_
  rintro e w1 ⟨qp, fv, fs, rfl, hfl, hp, hr, hf, hb⟩
  have hs1 := hb.size
  simp only [World.size_alloc] at hs1 hp hr hf
  obtain ⟨A5, c5, rfl, -⟩ := own_form hr
  replace hfl := hide hfl
  have K1 := hide (KsAt.alloc (w0 := w) (w := w1) (n2 := n2) (qp := qp) (fv := .slice A5 fs.length c5) (fs := fs) ⟨⟨hp.1, by omega⟩, own_base hr (by omega), fun u hu => by (obtain ⟨q, e, h1, h2⟩ := hf u hu; exact ⟨q, e, h1, by omega⟩), below_then hb0.out hb⟩ (Obj.cells #[.slice A1 zs.length c1, .slice A2 n2 c2, .slice (some ⟨qp, 0, none⟩) n2 n2, .slice A5 fs.length c5] 105))
  have R1 := hide (show KsRd w.heap.size w1.heap.size (.slice A1 zs.length c1) (.slice A2 n2 c2) (.slice (some ⟨qp, 0, none⟩) n2 n2) (.slice A5 fs.length c5) (w1.alloc (Obj.cells #[.slice A1 zs.length c1, .slice A2 n2 c2, .slice (some ⟨qp, 0, none⟩) n2 n2, .slice A5 fs.length c5] 105)) from ⟨(hbx.out.below hb (by simp)).alloc _, Blk.new _ _ _⟩)
  have e1 := (hbx.out.below hb (by simp)).cell 1
  clear hp hr hf hb
  obtain ⟨d0, d1, d2, d3, d4, d5⟩ := R1.out.cells
  obtain ⟨g0, g1, g2, g3, g4, g5⟩ := (R1.out.alloc (Obj.cells (zrow #[.slice none 0 0] n2) 134)).cells
  have hl1 : w.heap.size < w1.heap.size := by omega
  have hl2 : w.heap.size < w1.heap.size + 1 := by omega
  obtain ⟨l0, l1⟩ := R1.out.drew.lt
  have hB1 := hide (show Blk ((w1.alloc (Obj.cells #[.slice A1 zs.length c1, .slice A2 n2 c2, .slice (some ⟨qp, 0, none⟩) n2 n2, .slice A5 fs.length c5] 105)).alloc (Obj.cells (zrow #[.slice none 0 0] n2) 134)) (w1.heap.size + 1) 134 (zrow #[.slice none 0 0] n2) from by
    have := Blk.new (w1.alloc (Obj.cells #[.slice A1 zs.length c1, .slice A2 n2 c2, .slice (some ⟨qp, 0, none⟩) n2 n2, .slice A5 fs.length c5] 105)) 134 (zrow #[.slice none 0 0] n2)
    rwa [World.size_alloc] at this)
  have hsz : w.heap.size ≤ (w1.alloc (Obj.cells #[.slice A1 zs.length c1, .slice A2 n2 c2, .slice (some ⟨qp, 0, none⟩) n2 n2, .slice A5 fs.length c5] 105)).heap.size := K1.out.below.size
  go_wp2_with fail
  go_region_law (first
    | (go_simp; refine (clone_any A1 zs c1 _ hz hz2 (hIn.out _ (by first | exact K1.out.drew.below | exact (K1.out.drew.alloc _).below))).mono ?_; rintro e w2 ⟨qm, cm, rfl, hown, hb2⟩; have K2 : Hid (KsAt w n2 qp (.slice A5 fs.length c5) fs w2) := hide (by first | exact K1.out.drew.next hb2 | exact (K1.out.drew.alloc _).next hb2); have R2 : Hid (KsRd w.heap.size w1.heap.size (.slice A1 zs.length c1) (.slice A2 n2 c2) (.slice (some ⟨qp, 0, none⟩) n2 n2) (.slice A5 fs.length c5) w2) := hide (by first | exact R1.out.drew.next hb2 | exact (R1.out.drew.alloc _).next hb2); obtain ⟨f0, f1, f2, f3, f4, f5⟩ := R2.out.cells; obtain ⟨m0, m1⟩ := R2.out.lt; replace hown := hide hown; replace hb2 := hide hb2; go_simp))
  all_goals
    go_wp2_with fail
    have hM := RowB.of_own hown.out
    have hM2 : w.heap.size ≤ qm := Nat.le_trans (by simp; omega) hM.2
    have hw2 := K2.out.below.size
    clear d0 d1 d2 d3 d4 d5 g0 g1 g2 g3 g4 g5 f0 f1 f2 f3 f4 f5 hmk
    first
      | (refine bodyPost_ret (v := .iface 109 (.agg #[.slice A1 zs.length c1, .slice A2 n2 c2, .slice (some ⟨qp, 0, none⟩) n2 n2, .slice A5 fs.length c5, .slice (some ⟨qm, 0, none⟩) zs.length cm, .slice (some ⟨w2.heap.size, 0, none⟩) n2 n2])) ?_ rfl ?_
         · first | rfl | (simp [results, Try.results75, go_sem]; done)
         · exact ⟨qp, _, fs, qm, cm, w2.heap.size, rfl, hfl.out, K2.out.alloc _, ⟨hM.1.below (below1 w2 _), hM2⟩, Blk.new w2 _ _, hw2⟩)
      | (refine bodyPost_ret (v := .iface 109 (.agg #[.slice A1 zs.length c1, .slice A2 n2 c2, .slice (some ⟨qp, 0, none⟩) n2 n2, .slice A5 fs.length c5, .slice (some ⟨qm, 0, none⟩) zs.length cm, .slice (some ⟨w1.heap.size + 1, 0, none⟩) n2 n2])) ?_ rfl ?_
         · first | rfl | (simp [results, Try.results75, go_sem]; done)
         · exact ⟨qp, _, fs, qm, cm, w1.heap.size + 1, rfl, hfl.out, K2.out, ⟨hM.1, hM2⟩, (Blk.drew hB1.out).below hb2.out hB1.out.lt, by omega⟩)
end Go.Proofs.Ytaiklooffkmjjaa
