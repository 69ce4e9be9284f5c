/- spec.Quiet, for every instruction, place and file. -/
import Derived.Test.YtfkaacfeikmabaaMf0
import Derived.Test.YtfkaacfeikmabaaMf31
import Derived.Deep.RegionLaw
namespace Go.Proofs.Ytfkaacfeikmabaa
open Go.RowKit

def quietOk (o r a b : Int) (zs : List Int) : Bool := quietB o && decide (zs.length = 6) && regsB r a b
def quietRow (o n : Int) (r a b : Nat) (zs : List Int) : List Int := if o ≤ 6 then zs.set r (calcV o n (geti zs a) (geti zs b)) else zs
def quietPc (o n pc : Int) (a : Nat) (zs : List Int) : Int := if jumpsB o (geti zs a) then n else wrap64 (pc + 1)
def QuietNo (w w' : World) (e : Ending) : Prop := e = .returned (.tuple #[.agg #[.slice none 0 0], .int .i64 (-1)]) ∧ Below w.heap.size w w'
def QuietYes (w w' : World) (e : Ending) (row : List Int) (pc : Int) : Prop := (∃ q c, e = .returned (.tuple #[.agg #[.slice (some ⟨q, 0, none⟩) 6 c], .int .i64 pc]) ∧ row.length = 6 ∧ w'.ownsRow w.heap.size 3 1 (.slice (some ⟨q, 0, none⟩) 6 c) 6 (row.map (Value.int .i64))) ∧ Below w.heap.size w w'

theorem own_setInt {w : World} {B q c n : Nat} {zs : List Int} (h : w.ownsRow B 3 1 (.slice (some ⟨q, 0, none⟩) n c) n (zs.map (Value.int .i64))) (k : Nat) (z : Int) :
    (w.setCell ⟨q, k, none⟩ (.int .i64 z)).ownsRow B 3 1 (.slice (some ⟨q, 0, none⟩) n c) n ((zs.set k z).map (Value.int .i64)) := by
  rcases h.2 with ⟨hv, _⟩ | ⟨q', cap, cur, hv, hb, hh, hcap, hmax, hcs, ht⟩
  · cases hv
  · cases hv
    refine ⟨by simpa using h.1, .inr ⟨q, c, cur.setIfInBounds k (.int .i64 z), rfl, hb, Blk.set_ (t := 3) (cs := cur) hh k _, hcap, hmax, by simpa using hcs, ?_⟩⟩
    rw [List.map_set, ← ht]
    simp [List.take_set]
theorem own_blk {w : World} {B q c n : Nat} {e : TypeId} {size : Nat} {xs : List Value} (h : w.ownsRow B e size (.slice (some ⟨q, 0, none⟩) n c) n xs) : B ≤ q ∧ ∃ cur, Blk w q e cur ∧ n * size ≤ cur.size := by
  rcases h.2 with ⟨hv, _⟩ | ⟨q', cap, cur, hv, hb, hh, hcap, hmax, hcs, ht⟩
  · cases hv
  · cases hv
    exact ⟨hb, cur, hh, by rw [hcs]; exact Nat.mul_le_mul_right _ hcap⟩

structure Qr (w0 : World) (o r a b x n : Int) (A : Option Addr) (c : Nat) (zs : List Int) (U q cq : Nat) (row : List Int) (w : World) : Prop where
  fr : Fr w0 o r a b x n A c zs w
  R : ∃ u, Blk w (w0.heap.size + 1 + 1) 69 #[u]
  blkU : Blk w U 69 #[.slice (some ⟨q, 0, none⟩) 6 cq]
  row : w.ownsRow (w0.heap.size + 1 + 1 + 1) 3 1 (.slice (some ⟨q, 0, none⟩) 6 cq) 6 (row.map (Value.int .i64))
  lo : q < U

section
variable {w0 w w' : World} {o r a b x n : Int} {A : Option Addr} {c U q cq : Nat} {zs row : List Int}
theorem Qr.next (h : Qr w0 o r a b x n A c zs U q cq row w) (hb : Below w.heap.size w w') : Qr w0 o r a b x n A c zs U q cq row w' :=
  ⟨h.fr.next hb, h.R.imp fun _ k => k.below hb k.lt, h.blkU.below hb h.blkU.lt, own_keep h.row (fun b _ hlt => hb.block b hlt), h.lo⟩
theorem Qr.drew (h : Qr w0 o r a b x n A c zs U q cq row w) : Qr w0 o r a b x n A c zs U q cq row w.drew := h.next (Below.refl _ _).drew
theorem Qr.cells (h : Qr w0 o r a b x n A c zs U q cq row w) : w.cell? ⟨U, 0, none⟩ = some (.slice (some ⟨q, 0, none⟩) 6 cq) ∧ (∃ u, w.cell? ⟨w0.heap.size + 1 + 1, 0, none⟩ = some u) ∧ w.frozen? ⟨w0.heap.size + 1 + 1, 0, none⟩ = false := by
  obtain ⟨u, hu⟩ := h.R
  exact ⟨h.blkU.cell 0, ⟨u, hu.cell 0⟩, hu.frozen 0⟩
theorem Qr.at_ (h : Qr w0 o r a b x n A c zs U q cq row w) {k : Nat} (hk : k < 6) : (∃ u, w.cell? ⟨q, k, none⟩ = some u) ∧ w.frozen? ⟨q, k, none⟩ = false := by
  obtain ⟨_, cur, hb, hl⟩ := own_blk h.row
  exact ⟨⟨_, (hb.cell k).trans (Array.getElem?_eq_getElem (show k < cur.size by omega))⟩, hb.frozen k⟩
theorem Qr.set (h : Qr w0 o r a b x n A c zs U q cq row w) (k : Nat) (z : Int) : Qr w0 o r a b x n A c zs U q cq (row.set k z) (w.setCell ⟨q, k, none⟩ (.int .i64 z)) := by
  obtain ⟨hq, cur, hb, -⟩ := own_blk h.row
  have far : ∀ {g : Nat} {t : TypeId} {cs : Array Value}, Blk w g t cs → 3 ≠ t → g ≠ q := fun {g t cs} hg hne e => by
    subst e
    have h1 : w.heap[g]? = some (.cells cs t (0, 0)) := hg
    have h2 : w.heap[g]? = some (.cells cur 3 (0, 0)) := hb
    rw [h1] at h2
    cases h2
    exact hne rfl
  refine ⟨⟨h.fr.I.far (far h.fr.I (by decide)) _, h.fr.F.far (far h.fr.F (by decide)) _, h.fr.row.set _ (by show ¬ q < w0.heap.size; omega), h.fr.below.setCell (by show w0.heap.size ≤ q; omega) _⟩, h.R.imp fun _ k => k.far (far k (by decide)) _, h.blkU.far (far h.blkU (by decide)) _, own_setInt h.row k z, h.lo⟩
end

set_option maxRecDepth 100000 in
set_option maxHeartbeats 3200000 in
theorem quiet_no (o r a b x n pc : Int) (A : Option Addr) (zs : List Int) (c : Nat) (w : World) (hS : IntsAt w (Old w.heap.size) A zs) (hok : quietOk o r a b zs = false) :
    Calls Try.prog 44 #[.agg #[.int .i64 o, .int .i64 r, .int .i64 a, .int .i64 b, .int .i64 x, .int .i64 n], .int .i64 pc, .agg #[.slice A zs.length c]] w fun e w' => QuietNo w w' e := by
  have H0 := hide ((Fr.start (o := o) (r := r) (a := a) (b := b) (x := x) (n := n) (c := c) hS).next ((Below.refl _ _).alloc (Nat.le_refl _) (Obj.cells #[Value.slice none 0 0] 69)))
  have hR0 := Blk.new ((w.alloc (Obj.cells #[Value.int .i64 o, Value.int .i64 r, Value.int .i64 a, Value.int .i64 b, Value.int .i64 x, Value.int .i64 n] 72)).alloc (Obj.cells #[Value.slice A zs.length c] 69)) 69 #[.slice none 0 0]
  simp only [World.size_alloc] at hR0
  have hR0 := hide hR0
  have k2 := hide (fun w => quietK_any o w)
  have k4 := hide (fun w => regs_any o r a b x n w)
  have hb := hide (show quietOk o r a b zs = (quietB o && decide (zs.length = 6) && regsB r a b) from rfl)
  rw [hok] at hb
  generalize quietB o = p at *
  generalize regsB r a b = s at *
  have hcases : p = false ∨ (p = true ∧ ¬ zs.length = 6) ∨ (p = true ∧ zs.length = 6 ∧ s = false) := by
    have h := hb.out
    cases p
    · exact .inl rfl
    · by_cases h6 : zs.length = 6
      · exact .inr (.inr ⟨rfl, h6, by simpa [h6] using h⟩)
      · exact .inr (.inl ⟨rfl, h6⟩)
  clear hb hok
  rcases hcases with rfl | ⟨rfl, h6⟩ | ⟨rfl, h6, rfl⟩
  · go_enter Try.func44, Try.ntmps44
    go_wp2_with fail
    refine (kind_any _ _ _ _ _ _ _).mono ?_
    rintro e w1 ⟨rfl, hb1⟩
    have H1 := hide (H0.out.next hb1)
    have R1 := hide (hR0.out.below hb1 (by simp))
    have e0 := R1.out.cell 0
    have z0 := R1.out.frozen 0
    simp only [List.getElem?_toArray, List.getElem?_cons_zero] at e0
    go_wp2_with fail
    refine (k2.out _).mono ?_
    rintro e w2 ⟨rfl, rfl⟩
    go_wp2_with fail
    refine bodyPost_ret (v := .tuple #[.agg #[.slice none 0 0], .int .i64 (-1)]) (by simp [results, Try.results44, go_sem, e0]; done) rfl ⟨rfl, H1.out.below.setCell (by show w.heap.size ≤ w.heap.size + 1 + 1; omega) _⟩
  · go_enter Try.func44, Try.ntmps44
    go_wp2_with fail
    refine (kind_any _ _ _ _ _ _ _).mono ?_
    rintro e w1 ⟨rfl, hb1⟩
    have H1 := hide (H0.out.next hb1)
    have R1 := hide (hR0.out.below hb1 (by simp))
    obtain ⟨-, e6⟩ := H1.out.cells
    go_wp2_with fail
    refine (k2.out _).mono ?_
    rintro e w2 ⟨rfl, rfl⟩
    go_wp2_with fail
    refine (fileOk_any _ _ _ _).mono ?_
    rintro e w3 ⟨rfl, hb3⟩
    have H3 := hide (H1.out.next hb3)
    have R3 := hide (R1.out.below hb3 R1.out.lt)
    have hd : decide (zs.length = 6) = false := by simpa using h6
    rw [hd]
    have e0 := R3.out.cell 0
    have z0 := R3.out.frozen 0
    simp only [List.getElem?_toArray, List.getElem?_cons_zero] at e0
    go_wp2_with fail
    refine bodyPost_ret (v := .tuple #[.agg #[.slice none 0 0], .int .i64 (-1)]) (by simp [results, Try.results44, go_sem, e0]; done) rfl ⟨rfl, H3.out.below.setCell (by show w.heap.size ≤ w.heap.size + 1 + 1; omega) _⟩
  · rw [h6] at H0 hR0
    go_enter Try.func44, Try.ntmps44
    go_wp2_with fail
    refine (kind_any _ _ _ _ _ _ _).mono ?_
    rintro e w1 ⟨rfl, hb1⟩
    have H1 := hide (H0.out.next hb1)
    have R1 := hide (hR0.out.below hb1 (by simp))
    obtain ⟨⟨e1, e2, e3, e4, e5, e7⟩, e6⟩ := H1.out.cells
    rw [h6] at e6
    go_wp2_with fail
    refine (k2.out _).mono ?_
    rintro e w2 ⟨rfl, rfl⟩
    go_wp2_with fail
    refine (fileOk_any _ _ _ _).mono ?_
    rintro e w3 ⟨rfl, hb3⟩
    have H3 := hide (H1.out.next hb3)
    have R3 := hide (R1.out.below hb3 R1.out.lt)
    clear e1 e2 e3 e4 e5 e7 e6
    obtain ⟨⟨e1, e2, e3, e4, e5, e7⟩, -⟩ := H3.out.cells
    go_wp2_with fail
    refine (k4.out _).mono ?_
    rintro e w4 ⟨rfl, hb4⟩
    have H4 := hide (H3.out.next hb4)
    have R4 := hide (R3.out.below hb4 R3.out.lt)
    have e0 := R4.out.cell 0
    have z0 := R4.out.frozen 0
    simp only [List.getElem?_toArray, List.getElem?_cons_zero] at e0
    go_wp2_with fail
    refine bodyPost_ret (v := .tuple #[.agg #[.slice none 0 0], .int .i64 (-1)]) (by simp [results, Try.results44, go_sem, e0]; done) rfl ⟨rfl, H4.out.below.setCell (by show w.heap.size ≤ w.heap.size + 1 + 1; omega) _⟩

set_option maxRecDepth 100000 in
set_option maxHeartbeats 6400000 in
theorem quiet_yes_set (o x n pc : Int) (r a b : Nat) (A : Option Addr) (zs : List Int) (c : Nat) (w : World) (hr : r < 6) (ha : a < 6) (hb : b < 6) (hz : zs.length = 6) (hS : IntsAt w (Old w.heap.size) A zs) (ho : 1 ≤ o ∧ o ≤ 6) :
    Calls Try.prog 44 #[.agg #[.int .i64 o, .int .i64 r, .int .i64 a, .int .i64 b, .int .i64 x, .int .i64 n], .int .i64 pc, .agg #[.slice A 6 c]] w fun e w' => QuietYes w w' e (quietRow o n r a b zs) (quietPc o n pc a zs) := by
  have H0 := hide ((Fr.start (o := o) (r := r) (a := a) (b := b) (x := x) (n := n) (c := c) hS).next ((Below.refl _ _).alloc (Nat.le_refl _) (Obj.cells #[Value.slice none 0 0] 69)))
  have hR0 := Blk.new ((w.alloc (Obj.cells #[Value.int .i64 o, Value.int .i64 r, Value.int .i64 a, Value.int .i64 b, Value.int .i64 x, Value.int .i64 n] 72)).alloc (Obj.cells #[Value.slice A zs.length c] 69)) 69 #[.slice none 0 0]
  simp only [World.size_alloc] at hR0
  rw [hz] at H0 hR0
  replace hR0 := hide hR0
  have k2 := fun w => quietK_any o w
  rw [show quietB o = true from by unfold quietB knownB touchN; simp; omega] at k2
  replace k2 := hide k2
  have k4 := fun w => regs_any o r a b x n w
  rw [show regsB r a b = true from by simp [regsB, regB]; omega] at k4
  replace k4 := hide k4
  have kc := fun w hS => clone_any A zs c w (by omega) (by omega) hS
  rw [hz] at kc
  replace kc := hide kc
  have i0 : ∀ (p1 p2 p3 p4 p5 : Bool) (w : World), (Instr.index 152 (.agg #[.bool p1, .bool p2, .bool p3, .bool p4, .bool p5]) (.int .i64 0)).run Try.prog w = .ok (.bool p1) w := fun _ _ _ _ _ _ => by kernel_rfl
  have k6 := fun w => uses_any o w
  rw [show uR o = true from by unfold uR; simp; omega] at k6
  replace k6 := hide k6
  have k7 := fun S w hS hin => result_any (S := S) (zs := zs) (A := A) (w := w) o r x n a b c ha hb hz hS hin
  replace k7 := hide k7
  have k8 := fun w hin => jumps_any (zs := zs) (A := A) (w := w) o r x n a b c ha hz hin
  rw [hz] at k8
  have hpc : quietPc o n pc a zs = if jumpsB o (geti zs a) then n else wrap64 (pc + 1) := rfl
  have hrow : quietRow o n r a b zs = if o ≤ 6 then zs.set r (calcV o n (geti zs a) (geti zs b)) else zs := rfl
  rw [show jumpsB o (geti zs a) = false from by unfold jumpsB; simp; omega] at k8
  replace k8 := hide k8
  rw [hpc, hrow, if_pos ho.2, show jumpsB o (geti zs a) = false from by unfold jumpsB; simp; omega]
  clear hpc hrow
  go_enter Try.func44, Try.ntmps44
  go_wp2_with fail
  refine (kind_any _ _ _ _ _ _ _).mono ?_
  rintro e w1 ⟨rfl, hb1⟩
  have H1 := hide (H0.out.next hb1)
  have R1 := hide (hR0.out.below hb1 (by simp))
  obtain ⟨-, e6⟩ := H1.out.cells
  rw [hz] at e6
  go_wp2_with fail
  refine (k2.out _).mono ?_
  rintro e w2 ⟨rfl, rfl⟩
  go_wp2_with fail
  refine (fileOk_any _ _ _ _).mono ?_
  rintro e w3 ⟨rfl, hb3⟩
  have H3 := hide (H1.out.next hb3)
  have R3 := hide (R1.out.below hb3 R1.out.lt)
  clear e6
  obtain ⟨⟨e1, e2, e3, e4, e5, e7⟩, -⟩ := H3.out.cells
  go_wp2_with fail
  refine (k4.out _).mono ?_
  rintro e w4 ⟨rfl, hb4⟩
  have H4 := hide (H3.out.next hb4)
  have R4 := hide (R3.out.below hb4 R3.out.lt)
  clear e1 e2 e3 e4 e5 e7
  obtain ⟨⟨e1, e2, e3, e4, e5, e7⟩, e6⟩ := H4.out.cells
  rw [hz] at e6
  go_wp2_with fail
  refine (kc.out _ (H4.out.row.more (fun _ h => Nat.lt_of_lt_of_le h H4.out.below.size))).mono ?_
  rintro e w5 ⟨q, cq, rfl, hown, hb5⟩
  rw [hz] at hown
  simp only [hz]
  have hlR := R4.out.lt
  have hq5 : q < w5.heap.size := (own_lt hown rfl).2.1
  have Q5 := hide (show Qr w o r a b x n A c zs w5.heap.size q cq zs (w5.alloc (Obj.cells #[Value.slice (some ⟨q, 0, none⟩) 6 cq] 69)) from
    ⟨(H4.out.next hb5).next ((Below.refl _ _).alloc (Nat.le_refl _) _), ⟨_, (R4.out.below hb5 hlR).alloc _⟩, Blk.new _ _ _, own_keep (own_base hown (by omega)) (fun b _ hlt => Below.heap_alloc w5 _ b hlt), hq5⟩)
  clear e1 e2 e3 e4 e5 e7 e6 hown
  obtain ⟨⟨e1, e2, e3, e4, e5, e7⟩, e6⟩ := Q5.out.fr.cells
  go_wp2_with fail
  refine (kind_any _ _ _ _ _ _ _).mono ?_
  rintro e w6 ⟨rfl, hb6⟩
  have Q6 := hide (Q5.out.next hb6)
  go_wp2_with fail
  refine (k6.out _).mono ?_
  rintro e w7 ⟨rfl, hb7⟩
  have Q7 := hide (Q6.out.next hb7)
  clear e1 e2 e3 e4 e5 e7 e6
  obtain ⟨⟨e1, e2, e3, e4, e5, e7⟩, e6⟩ := Q7.out.drew.fr.cells
  rw [hz] at e6
  obtain ⟨d0, -, -⟩ := Q7.out.drew.cells
  have hri : (r : Int) < 6 := by omega
  go_wp2_with fail
  go_cut [] (fun wx => Qr w o r a b x n A c zs w5.heap.size q cq (zs.set r (calcV o n (geti zs a) (geti zs b))) wx)
  case first =>
    go_region_law (first
      | (go_simp; refine (k7.out (Old w.heap.size) _ (fun b h => Nat.lt_of_lt_of_le h Q7.out.drew.fr.below.size) Q7.out.drew.fr.row).mono ?_; rintro e w8 ⟨rfl, hb8⟩; have Q8 := hide (Q7.out.drew.next hb8); obtain ⟨⟨c1, c2, c3, c4, c5, c7⟩, c6⟩ := Q8.out.fr.cells; rw [hz] at c6; obtain ⟨b0, -, -⟩ := Q8.out.cells; obtain ⟨⟨u8, b1⟩, b2⟩ := Q8.out.at_ hr; go_simp))
    all_goals
      go_wp2_with fail
      go_meet
      exact Q8.out.set r _
  case rest =>
    have QC := hide hcut
    clear hcut Q7 Q6 Q5 d0 e1 e2 e3 e4 e5 e7 e6 hb6 hb7 hb5 R1 R3 R4 hR0 H1 H3 H4 H0
    obtain ⟨⟨e1, e2, e3, e4, e5, e7⟩, e6⟩ := QC.out.fr.cells
    rw [hz] at e6
    go_wp2_with fail
    refine (k8.out _ (QC.out.fr.row.more (fun _ h => Nat.lt_of_lt_of_le h QC.out.fr.below.size))).mono ?_
    rintro e w9 ⟨rfl, hb9⟩
    have QQ := hide (QC.out.next hb9)
    clear e1 e2 e3 e4 e5 e7 e6
    obtain ⟨d0, ⟨u, d1⟩, d2⟩ := QQ.out.cells
    have hown := QQ.out.row
    have hq0 := (own_blk hown).1
    have hfin := hide (own_setFar (own_base hown (show w.heap.size ≤ w.heap.size + 1 + 1 + 1 by omega)) (p := ⟨w.heap.size + 1 + 1, 0, none⟩) (by simp [Value.ownBlock]; omega) (.slice (some ⟨q, 0, none⟩) 6 cq))
    have hBf := hide QQ.out.fr.below
    clear hown
    go_wp2_with fail
    refine bodyPost_ret (v := .tuple #[.agg #[.slice (some ⟨q, 0, none⟩) 6 cq], .int .i64 (wrap64 (pc + 1))]) (by simp [results, Try.results44, go_sem, d1]; done) rfl ⟨⟨q, cq, rfl, by simp [hz], hfin.out⟩, hBf.out.setCell (by show w.heap.size ≤ w.heap.size + 1 + 1; omega) _⟩
end Go.Proofs.Ytfkaacfeikmabaa

namespace Go.Proofs.Ytfkaacfeikmabaa
open Go.RowKit

set_option maxRecDepth 100000 in
set_option maxHeartbeats 6400000 in
theorem quiet_jmp (o x n pc : Int) (r a b : Nat) (A : Option Addr) (zs : List Int) (c : Nat) (w : World) (hr : r < 6) (ha : a < 6) (hb : b < 6) (hz : zs.length = 6) (hS : IntsAt w (Old w.heap.size) A zs) (ho : o = 12 ∨ o = 13 ∨ o = 14) :
    Calls Try.prog 44 #[.agg #[.int .i64 o, .int .i64 r, .int .i64 a, .int .i64 b, .int .i64 x, .int .i64 n], .int .i64 pc, .agg #[.slice A 6 c]] w fun e w' => QuietYes w w' e (quietRow o n r a b zs) (quietPc o n pc a zs) := by
  have H0 := hide ((Fr.start (o := o) (r := r) (a := a) (b := b) (x := x) (n := n) (c := c) hS).next ((Below.refl _ _).alloc (Nat.le_refl _) (Obj.cells #[Value.slice none 0 0] 69)))
  have hR0 := Blk.new ((w.alloc (Obj.cells #[Value.int .i64 o, Value.int .i64 r, Value.int .i64 a, Value.int .i64 b, Value.int .i64 x, Value.int .i64 n] 72)).alloc (Obj.cells #[Value.slice A zs.length c] 69)) 69 #[.slice none 0 0]
  simp only [World.size_alloc] at hR0
  rw [hz] at H0 hR0
  replace hR0 := hide hR0
  have k2 := fun w => quietK_any o w
  rw [show quietB o = true from by rcases ho with rfl | rfl | rfl <;> decide] at k2
  replace k2 := hide k2
  have k4 := fun w => regs_any o r a b x n w
  rw [show regsB r a b = true from by simp [regsB, regB]; omega] at k4
  replace k4 := hide k4
  have kc := fun w hS => clone_any A zs c w (by omega) (by omega) hS
  rw [hz] at kc
  replace kc := hide kc
  have i0 : ∀ (p1 p2 p3 p4 p5 : Bool) (w : World), (Instr.index 152 (.agg #[.bool p1, .bool p2, .bool p3, .bool p4, .bool p5]) (.int .i64 0)).run Try.prog w = .ok (.bool p1) w := fun _ _ _ _ _ _ => by kernel_rfl
  have k6 := fun w => uses_any o w
  rw [show uR o = false from by rcases ho with rfl | rfl | rfl <;> decide] at k6
  replace k6 := hide k6
  have k7 := fun S w hS hin => result_any (S := S) (zs := zs) (A := A) (w := w) o r x n a b c ha hb hz hS hin
  replace k7 := hide k7
  have k8 := fun w hin => jumps_any (zs := zs) (A := A) (w := w) o r x n a b c ha hz hin
  rw [hz] at k8
  have hpc : quietPc o n pc a zs = if jumpsB o (geti zs a) then n else wrap64 (pc + 1) := rfl
  have hrow : quietRow o n r a b zs = if o ≤ 6 then zs.set r (calcV o n (geti zs a) (geti zs b)) else zs := rfl
  rw [hpc, hrow, if_neg (show ¬ o ≤ 6 by omega)]
  clear hpc hrow k7
  generalize jumpsB o (geti zs a) = jb at *
  replace k8 := hide k8
  go_enter Try.func44, Try.ntmps44
  go_wp2_with fail
  refine (kind_any _ _ _ _ _ _ _).mono ?_
  rintro e w1 ⟨rfl, hb1⟩
  have H1 := hide (H0.out.next hb1)
  have R1 := hide (hR0.out.below hb1 (by simp))
  obtain ⟨-, e6⟩ := H1.out.cells
  rw [hz] at e6
  go_wp2_with fail
  refine (k2.out _).mono ?_
  rintro e w2 ⟨rfl, rfl⟩
  go_wp2_with fail
  refine (fileOk_any _ _ _ _).mono ?_
  rintro e w3 ⟨rfl, hb3⟩
  have H3 := hide (H1.out.next hb3)
  have R3 := hide (R1.out.below hb3 R1.out.lt)
  clear e6
  obtain ⟨⟨e1, e2, e3, e4, e5, e7⟩, -⟩ := H3.out.cells
  go_wp2_with fail
  refine (k4.out _).mono ?_
  rintro e w4 ⟨rfl, hb4⟩
  have H4 := hide (H3.out.next hb4)
  have R4 := hide (R3.out.below hb4 R3.out.lt)
  clear e1 e2 e3 e4 e5 e7
  obtain ⟨⟨e1, e2, e3, e4, e5, e7⟩, e6⟩ := H4.out.cells
  rw [hz] at e6
  go_wp2_with fail
  refine (kc.out _ (H4.out.row.more (fun _ h => Nat.lt_of_lt_of_le h H4.out.below.size))).mono ?_
  rintro e w5 ⟨q, cq, rfl, hown, hb5⟩
  rw [hz] at hown
  simp only [hz]
  have hlR := R4.out.lt
  have hq5 : q < w5.heap.size := (own_lt hown rfl).2.1
  have Q5 := hide (show Qr w o r a b x n A c zs w5.heap.size q cq zs (w5.alloc (Obj.cells #[Value.slice (some ⟨q, 0, none⟩) 6 cq] 69)) from
    ⟨(H4.out.next hb5).next ((Below.refl _ _).alloc (Nat.le_refl _) _), ⟨_, (R4.out.below hb5 hlR).alloc _⟩, Blk.new _ _ _, own_keep (own_base hown (by omega)) (fun b _ hlt => Below.heap_alloc w5 _ b hlt), hq5⟩)
  clear e1 e2 e3 e4 e5 e7 e6 hown
  obtain ⟨⟨e1, e2, e3, e4, e5, e7⟩, e6⟩ := Q5.out.fr.cells
  go_wp2_with fail
  refine (kind_any _ _ _ _ _ _ _).mono ?_
  rintro e w6 ⟨rfl, hb6⟩
  have Q6 := hide (Q5.out.next hb6)
  go_wp2_with fail
  refine (k6.out _).mono ?_
  rintro e w7 ⟨rfl, hb7⟩
  have Q7 := hide (Q6.out.next hb7)
  clear e1 e2 e3 e4 e5 e7 e6
  have QC := hide Q7.out
  clear Q7 Q6 Q5 hb6 hb7 hb5 R1 R3 R4 hR0 H1 H3 H4 H0
  obtain ⟨⟨e1, e2, e3, e4, e5, e7⟩, e6⟩ := QC.out.fr.cells
  rw [hz] at e6
  go_wp2_with fail
  refine (k8.out _ (QC.out.fr.row.more (fun _ h => Nat.lt_of_lt_of_le h QC.out.fr.below.size))).mono ?_
  rintro e w9 ⟨rfl, hb9⟩
  have QQ := hide (QC.out.next hb9)
  clear e1 e2 e3 e4 e5 e7 e6
  obtain ⟨⟨e1, e2, e3, e4, e5, e7⟩, e6⟩ := QQ.out.fr.cells
  obtain ⟨d0, ⟨u, d1⟩, d2⟩ := QQ.out.cells
  have hown := QQ.out.row
  have hq0 := (own_blk hown).1
  have hfin := hide (own_setFar (own_base hown (show w.heap.size ≤ w.heap.size + 1 + 1 + 1 by omega)) (p := ⟨w.heap.size + 1 + 1, 0, none⟩) (by simp [Value.ownBlock]; omega) (.slice (some ⟨q, 0, none⟩) 6 cq))
  have hBf := hide QQ.out.fr.below
  clear hown
  cases jb
  · go_wp2_with fail
    refine bodyPost_ret (v := .tuple #[.agg #[.slice (some ⟨q, 0, none⟩) 6 cq], .int .i64 (wrap64 (pc + 1))]) (by simp [results, Try.results44, go_sem, d1]; done) rfl ⟨⟨q, cq, rfl, hz, hfin.out⟩, hBf.out.setCell (by show w.heap.size ≤ w.heap.size + 1 + 1; omega) _⟩
  · go_wp2_with fail
    go_region
    all_goals
      go_wp2_with fail
      refine bodyPost_ret (v := .tuple #[.agg #[.slice (some ⟨q, 0, none⟩) 6 cq], .int .i64 n]) (by simp [results, Try.results44, go_sem, d1]; done) rfl ⟨⟨q, cq, rfl, hz, hfin.out⟩, ?_⟩
      first | exact hBf.out.setCell (by show w.heap.size ≤ w.heap.size + 1 + 1; omega) _ | exact (hBf.out.setCell (by show w.heap.size ≤ w.heap.size + 1 + 1; omega) _).drew
end Go.Proofs.Ytfkaacfeikmabaa

namespace Go.Proofs.Ytfkaacfeikmabaa
open Go.RowKit

def spQ (o : Int) : Bool := decide ((1 ≤ o ∧ o ≤ 6) ∨ o = 13 ∨ o = 14)
theorem quietB_eq (o : Int) : quietB o = (spQ o || decide (o = 12)) := by
  unfold quietB spQ knownB touchN
  rw [Bool.eq_iff_iff]
  simp
  omega

section
variable {w0 w w' : World} {o r a b x n : Int} {A : Option Addr} {c : Nat} {zs : List Int}
theorem Fr.low {B : Nat} (h : Fr w0 o r a b x n A c zs w) (hb : Below B w w') (hB : w0.heap.size + 1 < B) : Fr w0 o r a b x n A c zs w' :=
  ⟨h.I.below hb (by omega), h.F.below hb hB, h.row.below hb (fun k hk => by have : k < w0.heap.size := hk; omega), h.below.trans (hb.mono (by omega))⟩
end

set_option maxRecDepth 100000 in
set_option maxHeartbeats 6400000 in
theorem squiet_no (o r a b x n pc : Int) (A : Option Addr) (zs : List Int) (c : Nat) (w : World) (hok : quietOk o r a b zs = false) :
    Calls Try.prog 41 #[.agg #[.int .i64 o, .int .i64 r, .int .i64 a, .int .i64 b, .int .i64 x, .int .i64 n], .int .i64 pc, .agg #[.slice A zs.length c]] w fun e w' => QuietNo w w' e := by
  have hB := hide ((below2 w (Obj.cells #[Value.int .i64 o, Value.int .i64 r, Value.int .i64 a, Value.int .i64 b, Value.int .i64 x, Value.int .i64 n] 72) (Obj.cells #[Value.slice A zs.length c] 69)).alloc (by simp; omega) (Obj.cells #[Value.slice none 0 0] 69))
  have kq := hide (fun w => (show Calls Try.prog 114 #[.int .i64 o] w fun e w' => e = .returned (.bool (spQ o)) ∧ w' = w from l2quiet_any o w))
  have hb : ((spQ o || decide (o = 12)) && decide (zs.length = 6) && (regB r && regB a && regB b)) = false := by rw [← quietB_eq]; exact hok
  have hcases : (spQ o = false ∧ ¬ o = 12) ∨ ((spQ o = true ∨ (spQ o = false ∧ o = 12)) ∧ (¬ (zs.length : Int) = 6 ∨ ((zs.length : Int) = 6 ∧ (regB r = false ∨ (regB r = true ∧ (regB a = false ∨ (regB a = true ∧ regB b = false))))))) := by
    cases h1 : spQ o
    · by_cases h2 : o = 12
      · refine .inr ⟨.inr ⟨rfl, h2⟩, ?_⟩
        by_cases h3 : zs.length = 6
        · refine .inr ⟨by omega, ?_⟩
          rw [h1, h2, h3] at hb
          cases h4 : regB r
          · exact .inl rfl
          · cases h5 : regB a
            · exact .inr ⟨rfl, .inl rfl⟩
            · exact .inr ⟨rfl, .inr ⟨rfl, by simpa [h4, h5] using hb⟩⟩
        · exact .inl (by omega)
      · exact .inl ⟨rfl, h2⟩
    · refine .inr ⟨.inl rfl, ?_⟩
      by_cases h3 : zs.length = 6
      · refine .inr ⟨by omega, ?_⟩
        rw [h1, h3] at hb
        cases h4 : regB r
        · exact .inl rfl
        · cases h5 : regB a
          · exact .inr ⟨rfl, .inl rfl⟩
          · exact .inr ⟨rfl, .inr ⟨rfl, by simpa [h4, h5] using hb⟩⟩
      · exact .inl (by omega)
  clear hb hok
  generalize spQ o = s at *
  rcases hcases with ⟨rfl, h1⟩ | ⟨rfl | ⟨rfl, rfl⟩, h2 | ⟨h2, h3 | ⟨h3, h4 | ⟨h4, h5⟩⟩⟩⟩
  all_goals
    go_enter Try.func41, Try.ntmps41
    go_wp2_with (first | (go_at_call 114; refine (kq.out _).mono ?_; rintro e w1 ⟨rfl, rfl⟩) | (go_at_call 115; refine (l1reg_any _ _).mono ?_; rintro e w1 ⟨rfl, rfl⟩))
    refine bodyPost_ret (v := .tuple #[.agg #[.slice none 0 0], .int .i64 (-1)]) (by simp [results, Try.results41, go_sem]; done) rfl ⟨rfl, ?_⟩
    first | exact hB.out | exact hB.out.setCell (by show w.heap.size ≤ w.heap.size + 1 + 1; omega) _

set_option maxRecDepth 100000 in
set_option maxHeartbeats 6400000 in
theorem squiet_set (o x n pc : Int) (r a b : Nat) (A : Option Addr) (zs : List Int) (c : Nat) (w : World) (hr : r < 6) (ha : a < 6) (hb : b < 6) (hz : zs.length = 6) (hS : IntsAt w (Old w.heap.size) A zs) (ho : 1 ≤ o ∧ o ≤ 6) :
    Calls Try.prog 41 #[.agg #[.int .i64 o, .int .i64 r, .int .i64 a, .int .i64 b, .int .i64 x, .int .i64 n], .int .i64 pc, .agg #[.slice A 6 c]] w fun e w' => QuietYes w w' e (quietRow o n r a b zs) (quietPc o n pc a zs) := by
  obtain ⟨i1, hi1, hy0, hy1, hy2⟩ := info_parts Try.infoInt
  have hi1 := hide hi1
  have H0 := hide (((Fr.start (o := o) (r := r) (a := a) (b := b) (x := x) (n := n) (c := c) hS).next ((Below.refl _ _).alloc (Nat.le_refl _) (Obj.cells #[Value.slice none 0 0] 69))).next ((Below.refl _ _).alloc (Nat.le_refl _) (Obj.cells #[] 3)))
  have hR0 := (Blk.new ((w.alloc (Obj.cells #[Value.int .i64 o, Value.int .i64 r, Value.int .i64 a, Value.int .i64 b, Value.int .i64 x, Value.int .i64 n] 72)).alloc (Obj.cells #[Value.slice A zs.length c] 69)) 69 #[.slice none 0 0]).alloc (Obj.cells #[] 3)
  have hown0 := own_lit (((w.alloc (Obj.cells #[Value.int .i64 o, Value.int .i64 r, Value.int .i64 a, Value.int .i64 b, Value.int .i64 x, Value.int .i64 n] 72)).alloc (Obj.cells #[Value.slice A zs.length c] 69)).alloc (Obj.cells #[.slice none 0 0] 69)) (w.heap.size + 1 + 1 + 1) 3 1 0 #[] (by simp) (by omega) rfl
  simp only [World.size_alloc] at hR0 hown0
  rw [hz] at H0 hR0 hown0
  replace hR0 := hide hR0
  replace hown0 := hide hown0
  obtain ⟨bb, off, rfl, hbb, hci⟩ := hS.2 (by omega)
  have hbb : bb < w.heap.size := hbb
  have hnews := hide (news_of_ints H0.out.row)
  have kq := hide (fun w => (show Calls Try.prog 114 #[.int .i64 o] w fun e w' => e = .returned (.bool (spQ o)) ∧ w' = w from l2quiet_any o w))
  rw [show spQ o = true from by unfold spQ; simp; omega] at kq
  have k1 := fun (z : Nat) (hz : z < 6) w => l1reg_any z w
  have kr : ∀ (z : Nat) (hz : z < 6) (w : World), Calls Try.prog 115 #[.int .i64 z] w fun e w' => e = .returned (.bool true) ∧ w = w' := fun z hz w => by
    have := l1reg_any z w
    rwa [show regB z = true from by unfold regB; simp; omega] at this
  replace kr := hide kr
  clear k1
  have hpc : quietPc o n pc a zs = if jumpsB o (geti zs a) then n else wrap64 (pc + 1) := rfl
  have hrow : quietRow o n r a b zs = if o ≤ 6 then zs.set r (calcV o n (geti zs a) (geti zs b)) else zs := rfl
  rw [hpc, hrow, if_pos ho.2, show jumpsB o (geti zs a) = false from by unfold jumpsB; simp; omega]
  clear hpc hrow hci
  go_enter Try.func41, Try.ntmps41
  go_wp2_with (first | (go_at_call 114; refine (kq.out _).mono ?_; rintro e w1 ⟨rfl, rfl⟩) | (go_at_call 115; refine (kr.out _ (by assumption) _).mono ?_; rintro e w1 ⟨rfl, rfl⟩) | (at_builtin; refine wpList_append_lies _ rfl _ _ _ rfl (w.heap.size + 1 + 1 + 1) 3 i1 _ 1 8 Try.underlying22 hi1.out hy0 hy1 hy2 rfl (by omega) (.slice (some ⟨w.heap.size + 1 + 1 + 1, 0, none⟩) 0 0) 0 [] rfl hown0.out ⟨bb, off, none⟩ 6 c (zs.map (Value.int .i64)) rfl (by simp [hz]) hnews.out (by simp [Value.oneCell']) (by omega) (by have : maxLen = 9223372036854775807 := rfl; omega) (by omega) (by simp) _ rfl ?_))
  intro q cq w5 hown hgr hat hlt
  have hB5 := below_grown (B := w.heap.size + 1 + 1 + 1) hgr (fun k hk => by simp [Value.ownBlock]; omega) (by simp)
  have hl5 := hB5.size
  have hR5 := hR0.out.below hB5 (by omega)
  have Q5 := hide (show Qr w o r a b x n (some ⟨bb, off, none⟩) c zs w5.heap.size q cq zs (w5.alloc (Obj.cells #[Value.slice (some ⟨q, 0, none⟩) 6 cq] 69)) from
    ⟨(H0.out.low hB5 (by omega)).next ((Below.refl _ _).alloc (Nat.le_refl _) _), ⟨_, hR5.alloc _⟩, Blk.new _ _ _, own_keep (by simpa using hown) (fun b _ hlt => Below.heap_alloc w5 _ b hlt), hlt⟩)
  clear hown hgr hat hB5 hR5
  obtain ⟨⟨e1, e2, e3, e4, e5, e7⟩, e6⟩ := Q5.out.fr.cells
  rw [hz] at e6
  obtain ⟨d0, ⟨u, d1⟩, d2⟩ := Q5.out.cells
  have hri : (r : Int) < 6 := by omega
  have k7 := fun w hin => l2calc_any (zs := zs) (A := some ⟨bb, off, none⟩) (w := w) o r x n a b c ho ha hb hz hin
  rw [hz] at k7
  replace k7 := hide k7
  have hq0 := (own_blk Q5.out.row).1
  go_wp2_with fail
  go_region_law (first
    | (go_simp; refine (k7.out _ (Q5.out.drew.fr.row.more (fun _ h => Nat.lt_of_lt_of_le h Q5.out.drew.fr.below.size))).mono ?_; rintro e w8 ⟨rfl, hb8⟩; have Q8 := hide (Q5.out.drew.next hb8); obtain ⟨⟨c1, c2, c3, c4, c5, c7⟩, c6⟩ := Q8.out.fr.cells; rw [hz] at c6; obtain ⟨b0, ⟨u9, b3⟩, b4⟩ := Q8.out.cells; obtain ⟨⟨u8, b1⟩, b2⟩ := Q8.out.at_ hr; go_simp))
  all_goals
    have Q9 := hide (Q8.out.set r (calcV o n (geti zs a) (geti zs b)))
    have hfin := hide (own_setFar (own_base Q9.out.row (show w.heap.size ≤ w.heap.size + 1 + 1 + 1 by omega)) (p := ⟨w.heap.size + 1 + 1, 0, none⟩) (by simp [Value.ownBlock]; omega) (.slice (some ⟨q, 0, none⟩) 6 cq))
    have hBf := hide Q9.out.fr.below
    obtain ⟨f0, ⟨u10, f3⟩, f4⟩ := Q9.out.cells
    go_wp2_with fail
    refine bodyPost_ret (v := .tuple #[.agg #[.slice (some ⟨q, 0, none⟩) 6 cq], .int .i64 (wrap64 (pc + 1))]) (by simp [results, Try.results41, go_sem, f3]; done) rfl ⟨⟨q, cq, rfl, by simp [hz], hfin.out⟩, hBf.out.setCell (by show w.heap.size ≤ w.heap.size + 1 + 1; omega) _⟩
end Go.Proofs.Ytfkaacfeikmabaa
