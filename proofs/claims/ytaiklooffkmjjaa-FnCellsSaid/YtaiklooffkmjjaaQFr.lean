/- Quiet's smaller calls: the file's copy, what is put into the register, whether it jumps. -/
import Derived.Test.YtaiklooffkmjjaaQLeaf
import Derived.Test.YtaiklooffkmjjaaBeG
import Derived.Test.YtaiklooffkmjjaaToP
import Derived.Deep.AppendLies
namespace Go.Proofs.Ytaiklooffkmjjaa
open Go.RowKit

theorem IntsAt.drewN {w : World} {S : Nat → Prop} {A : Option Addr} {zs : List Int} (h : IntsAt w S A zs) (k : Nat) : IntsAt (w.drewN k) S A zs := h
/-- An instruction and a file of six, boxed by a call in w0. -/
structure Fr (w0 : World) (o r a b x n : Int) (A : Option Addr) (c : Nat) (zs : List Int) (w : World) : Prop where
  I : Blk w w0.heap.size 24 #[.int .i64 o, .int .i64 r, .int .i64 a, .int .i64 b, .int .i64 x, .int .i64 n]
  F : Blk w (w0.heap.size + 1) 32 #[.slice A zs.length c]
  row : IntsAt w (Old w0.heap.size) A zs
  below : Below w0.heap.size w0 w

section
variable {w0 w w' : World} {o r a b x n : Int} {A : Option Addr} {c : Nat} {zs : List Int}
theorem Fr.next (h : Fr w0 o r a b x n A c zs w) (hb : Below w.heap.size w w') : Fr w0 o r a b x n A c zs w' :=
  ⟨h.I.below hb h.I.lt, h.F.below hb h.F.lt, h.row.below hb (fun _ hk => Nat.lt_of_lt_of_le hk h.below.size), below_then h.below (hb.mono (Nat.le_refl _))⟩
theorem Fr.drewN (h : Fr w0 o r a b x n A c zs w) (k : Nat) : Fr w0 o r a b x n A c zs (w.drewN k) := h.next (below_drewN (Below.refl _ _) k)
theorem Fr.drew (h : Fr w0 o r a b x n A c zs w) : Fr w0 o r a b x n A c zs w.drew := h.next (Below.refl _ _).drew
theorem Fr.start (h : IntsAt w0 (Old w0.heap.size) A zs) : Fr w0 o r a b x n A c zs ((w0.alloc (Obj.cells #[Value.int .i64 o, Value.int .i64 r, Value.int .i64 a, Value.int .i64 b, Value.int .i64 x, Value.int .i64 n] 24)).alloc (Obj.cells #[Value.slice A zs.length c] 32)) := by
  have hF := Blk.new (w0.alloc (Obj.cells #[Value.int .i64 o, Value.int .i64 r, Value.int .i64 a, Value.int .i64 b, Value.int .i64 x, Value.int .i64 n] 24)) 32 #[Value.slice A zs.length c]
  simp only [World.size_alloc] at hF
  exact ⟨(Blk.new w0 _ _).alloc _, hF, h.below (below2 w0 _ _) (fun _ h => h), below2 w0 _ _⟩
theorem Fr.cells (h : Fr w0 o r a b x n A c zs w) : (w.cell? ⟨w0.heap.size, 0, none⟩ = some (.int .i64 o) ∧ w.cell? ⟨w0.heap.size, 1, none⟩ = some (.int .i64 r) ∧ w.cell? ⟨w0.heap.size, 2, none⟩ = some (.int .i64 a) ∧ w.cell? ⟨w0.heap.size, 3, none⟩ = some (.int .i64 b) ∧ w.cell? ⟨w0.heap.size, 4, none⟩ = some (.int .i64 x) ∧ w.cell? ⟨w0.heap.size, 5, none⟩ = some (.int .i64 n)) ∧ w.cell? ⟨w0.heap.size + 1, 0, none⟩ = some (.slice A zs.length c) :=
  ⟨(ins6 h.I).1, h.F.cell 0⟩
end

theorem news_of_ints {w : World} {S : Nat → Prop} {b off : Nat} {zs : List Int} (h : IntsAt w S (some ⟨b, off, none⟩) zs) : ∀ j u, (zs.map (Value.int .i64))[j]? = some u → w.cell? ((⟨b, off, none⟩ : Addr).add j) = some u := by
  intro j u hj
  rcases Nat.lt_or_ge j zs.length with hl | hl
  · obtain ⟨b', off', e, _, hc⟩ := h.2 (by omega)
    cases e
    rw [add_plain', hc j hl]
    simpa [geti, List.getD_eq_getElem?_getD, List.getElem?_eq_getElem hl] using hj
  · rw [List.getElem?_eq_none (by simpa using hl)] at hj
    cases hj

/-- A copy of a row of numbers, in a block of its own. -/
def RowNew (w w' : World) (e : Ending) (zs : List Int) : Prop := ∃ (q c : Nat), e = .returned (.slice (some ⟨q, 0, none⟩) zs.length c) ∧ w'.ownsRow w.heap.size 3 1 (.slice (some ⟨q, 0, none⟩) zs.length c) zs.length (zs.map (Value.int .i64)) ∧ Below w.heap.size w w'

theorem below_grown {w w' : World} {r : Option Nat} {B : Nat} (hg : w.grownBy w' r) (hr : ∀ k, k < B → some k ≠ r) (hB : B ≤ w.heap.size) : Below B w w' :=
  ⟨hg.os, hg.tape, hg.output, hg.size, fun k hk => hg.block k (Nat.lt_of_lt_of_le hk hB) (hr k hk)⟩

set_option maxRecDepth 100000 in
set_option maxHeartbeats 1600000 in
theorem clone_any (A : Option Addr) (zs : List Int) (c : Nat) (w : World) (hz : 0 < zs.length) (hz2 : zs.length ≤ 100) (hS : IntsAt w (Old w.heap.size) A zs) :
    Calls Try.prog 58 #[.slice A zs.length c] w fun e w' => RowNew w w' e zs := by
  obtain ⟨b, off, rfl, -, -⟩ := hS.2 hz
  obtain ⟨i1, hi1, hy0, hy1, hy2⟩ := info_parts Try.infoInt
  have hb0 := below1 w (Obj.cells #[] 3)
  have hnews := hide (news_of_ints (hS.below hb0 (fun _ h => h)))
  clear hS
  have he : ∀ w : World, (binOp .eql 30 (.slice (some ⟨b, off, none⟩) zs.length c) (.slice none 0 0)).run Try.prog w = .ok (.bool false) w := fun _ => by kernel_rfl
  go_enter Try.func58, Try.ntmps58
  go_wp2_with (at_builtin; refine wpList_append_lies _ rfl _ _ _ rfl w.heap.size 3 i1 _ 1 8 Try.underlying30 hi1 hy0 hy1 hy2 rfl (by omega) (.slice (some ⟨w.heap.size, 0, none⟩) 0 0) 0 [] rfl (own_lit w w.heap.size 3 1 0 #[] (Nat.le_refl _) (by omega) rfl) ⟨b, off, none⟩ zs.length c (zs.map (Value.int .i64)) rfl (by simp) hnews.out (by simp [Value.oneCell']) hz (by have : maxLen = 9223372036854775807 := rfl; omega) (by omega) (by simp) _ rfl ?_)
  intro g cap w2 hown hgr hat hlt
  go_wp2_with fail
  go_ret
  exact ⟨g, cap, rfl, hown, hb0.trans (below_grown hgr (fun k hk => by simp [Value.ownBlock]; omega) (by simp))⟩

section
variable {o r x n : Int} {a b c : Nat} {A : Option Addr} {zs : List Int} {w : World}
set_option maxRecDepth 100000 in
set_option maxHeartbeats 3200000 in
theorem jumps_any (o r x n : Int) (a b c : Nat) (ha : a < 6) (hz : zs.length = 6) (hin : IntsAt w (Old w.heap.size) A zs) :
    Calls Try.prog 61 #[.agg #[.int .i64 o, .int .i64 r, .int .i64 a, .int .i64 b, .int .i64 x, .int .i64 n], .agg #[.slice A zs.length c]] w fun e w' => e = .returned (.bool (jumpsB o (geti zs a))) ∧ Below w.heap.size w w' := by
  have H0 := hide (Fr.start (o := o) (r := r) (a := a) (b := b) (x := x) (n := n) (c := c) hin)
  rw [hz] at H0
  have hx : ∀ {wx : World}, Fr w o r a b x n A c zs wx → ∃ bb off, A = some ⟨bb, off, none⟩ ∧ wx.cell? ⟨bb, off + a, none⟩ = some (.int .i64 (geti zs a)) := fun h => by
    obtain ⟨bb, off, e, _, hc⟩ := h.row.2 (by omega)
    exact ⟨bb, off, e, hc a (by omega)⟩
  have ha' : (a : Int) < 6 := by omega
  have hcases : (o = 14) ∨ (o = 13 ∧ geti zs a = 0) ∨ (o = 13 ∧ ¬ geti zs a = 0) ∨ (¬ o = 14 ∧ ¬ o = 13) := by omega
  rcases hcases with rfl | ⟨rfl, h1⟩ | ⟨rfl, h1⟩ | ⟨h1, h2⟩
  · go_enter Try.func61, Try.ntmps61
    go_wp2_with fail
    refine (kind_any _ _ _ _ _ _ _).mono ?_
    rintro e w1 ⟨rfl, hb1⟩
    go_wp2_with fail
    go_ret
    exact ⟨ret_bool (by simp [jumpsB]), (H0.out.next hb1).below⟩
  · go_enter Try.func61, Try.ntmps61
    go_wp2_with fail
    refine (kind_any _ _ _ _ _ _ _).mono ?_
    rintro e w1 ⟨rfl, hb1⟩
    have H1 := hide (H0.out.next hb1)
    obtain ⟨⟨e0, e1, e2, e3, e4, e5⟩, e6⟩ := H1.out.cells
    go_wp2_with fail
    refine (kind_any _ _ _ _ _ _ _).mono ?_
    rintro e w2 ⟨rfl, hb2⟩
    have H2 := hide (H1.out.next hb2)
    obtain ⟨⟨d0, d1, d2, d3, d4, d5⟩, d6⟩ := H2.out.cells
    obtain ⟨bb, off, rfl, hcl⟩ := hx H2.out
    rw [h1] at hcl
    rw [hz] at d6
    go_wp2_with fail
    go_ret
    exact ⟨ret_bool (by simp [jumpsB, h1]), H2.out.below⟩
  · go_enter Try.func61, Try.ntmps61
    go_wp2_with fail
    refine (kind_any _ _ _ _ _ _ _).mono ?_
    rintro e w1 ⟨rfl, hb1⟩
    have H1 := hide (H0.out.next hb1)
    obtain ⟨⟨e0, e1, e2, e3, e4, e5⟩, e6⟩ := H1.out.cells
    go_wp2_with fail
    refine (kind_any _ _ _ _ _ _ _).mono ?_
    rintro e w2 ⟨rfl, hb2⟩
    have H2 := hide (H1.out.next hb2)
    obtain ⟨⟨d0, d1, d2, d3, d4, d5⟩, d6⟩ := H2.out.cells
    obtain ⟨bb, off, rfl, hcl⟩ := hx H2.out
    rw [hz] at d6
    go_wp2_with fail
    go_ret
    exact ⟨ret_bool (by simp [jumpsB, h1]), H2.out.below⟩
  · go_enter Try.func61, Try.ntmps61
    go_wp2_with fail
    refine (kind_any _ _ _ _ _ _ _).mono ?_
    rintro e w1 ⟨rfl, hb1⟩
    have H1 := hide (H0.out.next hb1)
    obtain ⟨⟨e0, e1, e2, e3, e4, e5⟩, e6⟩ := H1.out.cells
    go_wp2_with fail
    refine (kind_any _ _ _ _ _ _ _).mono ?_
    rintro e w2 ⟨rfl, hb2⟩
    go_wp2_with fail
    go_ret
    exact ⟨ret_bool (by simp [jumpsB, h1, h2]), (H1.out.next hb2).below⟩

set_option maxRecDepth 100000 in
set_option maxHeartbeats 3200000 in
theorem l2calc_any (o r x n : Int) (a b c : Nat) (ho : 1 ≤ o ∧ o ≤ 6) (ha : a < 6) (hb : b < 6) (hz : zs.length = 6) (hin : IntsAt w (Old w.heap.size) A zs) :
    Calls Try.prog 55 #[.agg #[.int .i64 o, .int .i64 r, .int .i64 a, .int .i64 b, .int .i64 x, .int .i64 n], .slice A zs.length c] w fun e w' => e = .returned (.int .i64 (calcV o n (geti zs a) (geti zs b))) ∧ Below w.heap.size w w' := by
  obtain ⟨bb, off, rfl, hlt, hci⟩ := hin.2 (by omega)
  have hlt : bb < w.heap.size := hlt
  have ca := hci a (by omega)
  have cb := hci b (by omega)
  have ha' : (a : Int) < 6 := by omega
  have hb' : (b : Int) < 6 := by omega
  rw [hz]
  clear hci hin hz
  generalize geti zs a = za at *
  generalize geti zs b = zb at *
  have hcases : o = 1 ∨ o = 2 ∨ o = 3 ∨ o = 4 ∨ (o = 5 ∧ za < zb) ∨ (o = 5 ∧ ¬ za < zb) ∨ (o = 6 ∧ za = zb) ∨ (o = 6 ∧ ¬ za = zb) := by omega
  clear ho
  rcases hcases with rfl | rfl | rfl | rfl | ⟨rfl, h1⟩ | ⟨rfl, h1⟩ | ⟨rfl, rfl⟩ | ⟨rfl, h1⟩
  · go_enter Try.func55, Try.ntmps55
    go_wp2_with fail
    go_ret
    exact ⟨ret_int (by simp [calcV]), below1 _ _⟩
  · go_enter Try.func55, Try.ntmps55
    go_wp2_with fail
    go_ret
    exact ⟨ret_int (by simp [calcV]), below1 _ _⟩
  · go_enter Try.func55, Try.ntmps55
    go_wp2_with fail
    go_quiet (fail)
    go_wp2_with fail
    go_ret
    exact ⟨ret_int (by simp [calcV]), below_drewN (below1 _ _) _⟩
  · go_enter Try.func55, Try.ntmps55
    go_wp2_with fail
    go_quiet (fail)
    go_wp2_with fail
    go_ret
    exact ⟨ret_int (by simp [calcV]), below_drewN (below1 _ _) _⟩
  · have hd : decide (za < zb) = true := by simp; omega
    go_enter Try.func55, Try.ntmps55
    go_wp2_with fail
    go_quiet (first | (go_at_call 90; refine Calls.quiet_of_same (l2flag_any _ _)))
    go_wp2_with fail
    go_ret
    exact ⟨ret_int (by simp [calcV]; omega), below_drewN (below1 _ _) _⟩
  · have hd : decide (za < zb) = false := by simp; omega
    go_enter Try.func55, Try.ntmps55
    go_wp2_with fail
    go_quiet (first | (go_at_call 90; refine Calls.quiet_of_same (l2flag_any _ _)))
    go_wp2_with fail
    go_ret
    exact ⟨ret_int (by simp [calcV]; omega), below_drewN (below1 _ _) _⟩
  · go_enter Try.func55, Try.ntmps55
    go_wp2_with fail
    go_quiet (first | (go_at_call 90; refine Calls.quiet_of_same (l2flag_any _ _)))
    go_wp2_with fail
    go_ret
    exact ⟨ret_int (by simp [calcV]), below_drewN (below1 _ _) _⟩
  · have hd : (za == zb) = false := by simpa using h1
    go_enter Try.func55, Try.ntmps55
    go_wp2_with fail
    go_quiet (first | (go_at_call 90; refine Calls.quiet_of_same (l2flag_any _ _)))
    go_wp2_with fail
    go_ret
    exact ⟨ret_int (by simp [calcV, h1]), below_drewN (below1 _ _) _⟩
end
end Go.Proofs.Ytaiklooffkmjjaa
