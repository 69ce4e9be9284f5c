/- The walk of FnExactQuiet: it answers true and leaves its arguments. -/
import Derived.Test.YtbchiiggfhdnkaaQAll
import Derived.Test.YtbchiiggfhdnkaaToIns
import Derived.Deep.RegionLaw
import Derived.Deep.DeepCutAuto
namespace Go.Proofs.Ytbchiiggfhdnkaa
open Go.RowKit

attribute [local go_sem ↓] Go.wp_at_zero Go.wp_at_succ

theorem quietRow_len (o n : Int) (r a b : Nat) (zs : List Int) : (quietRow o n r a b zs).length = zs.length := by unfold quietRow; split <;> simp
theorem qRow_len (o r a b n : Int) (zs : List Int) : (qRow o r a b n zs).length ≤ 6 := by
  unfold qRow
  split
  · rename_i h
    unfold quietOk at h
    simp only [Bool.and_eq_true, decide_eq_true_eq] at h
    rw [quietRow_len, h.1.2]
    exact Nat.le_refl _
  · simp

/-- The law's own two arguments, boxed. -/
structure Lx (w0 : World) (o r a b x n : Int) (A : Option Addr) (c : Nat) (zs : List Int) (w : World) : Prop where
  I : Blk w w0.heap.size 66 #[.int .i64 o, .int .i64 r, .int .i64 a, .int .i64 b, .int .i64 x, .int .i64 n]
  F : Blk w (w0.heap.size + 1) 88 #[.slice A zs.length c]
  row : IntsAt w (Old w0.heap.size) A zs
  below : Below w0.heap.size w0 w

theorem Blk.grown {w w' : World} {k B : Nat} {t : TypeId} {cs : Array Value} {v : Value} {row : List Int} (h : Blk w k t cs) (hg : w.grownBy w' v.ownBlock) (hv : Rv w B v row) (hne : t ≠ 3) : Blk w' k t cs := by
  refine (hg.block k h.lt (fun e => ?_)).trans h
  rcases hv with ⟨rfl, _⟩ | ⟨q, c, rfl, ⟨ds, h1, _⟩, _⟩
  · cases e
  · have e2 : q = k := by simpa [Value.ownBlock] using e.symm
    subst e2
    have h2 : w.heap[q]? = some (.cells cs t (0, 0)) := h
    have h3 : w.heap[q]? = some (.cells ds 3 (0, 0)) := h1
    rw [h2] at h3
    cases h3
    exact hne rfl

section
variable {w0 w w' : World} {o r a b x n : Int} {A : Option Addr} {c : Nat} {zs : List Int}
theorem Lx.next (h : Lx w0 o r a b x n A c zs w) (hb : Below w.heap.size w w') : Lx w0 o r a b x n A c zs w' :=
  ⟨h.I.below hb h.I.lt, h.F.below hb h.F.lt, h.row.below hb (fun _ hk => Nat.lt_of_lt_of_le hk h.below.size), below_then h.below hb⟩
theorem Lx.grown {B : Nat} {v : Value} {row : List Int} (h : Lx w0 o r a b x n A c zs w) (hg : w.grownBy w' v.ownBlock) (hv : Rv w B v row) (hB : w0.heap.size ≤ B) : Lx w0 o r a b x n A c zs w' := by
  have hlow : Below w0.heap.size w w' := ⟨hg.os, hg.tape, hg.output, hg.size, fun k hk => hg.block k (Nat.lt_of_lt_of_le hk h.below.size) (fun e => by have := (hv.own_lt e.symm).1; omega)⟩
  exact ⟨h.I.grown hg hv (by decide), h.F.grown hg hv (by decide), h.row.below hlow (fun _ hk => hk), h.below.trans hlow⟩
theorem Lx.cells (h : Lx w0 o r a b x n A c zs w) : (w.cell? ⟨w0.heap.size, 0, none⟩ = some (.int .i64 o) ∧ w.cell? ⟨w0.heap.size, 1, none⟩ = some (.int .i64 r) ∧ w.cell? ⟨w0.heap.size, 2, none⟩ = some (.int .i64 a) ∧ w.cell? ⟨w0.heap.size, 3, none⟩ = some (.int .i64 b) ∧ w.cell? ⟨w0.heap.size, 4, none⟩ = some (.int .i64 x) ∧ w.cell? ⟨w0.heap.size, 5, none⟩ = some (.int .i64 n)) ∧ w.cell? ⟨w0.heap.size + 1, 0, none⟩ = some (.slice A zs.length c) :=
  ⟨⟨h.I.cell 0, h.I.cell 1, h.I.cell 2, h.I.cell 3, h.I.cell 4, h.I.cell 5⟩, h.F.cell 0⟩
theorem Lx.lts (h : Lx w0 o r a b x n A c zs w) : ∀ b, Old w0.heap.size b → b < w.heap.size := fun _ hb => Nat.lt_of_lt_of_le hb h.below.size
end

theorem below_da {w w1 : World} {o : Obj} (h : Below ((w.alloc o).drew).heap.size ((w.alloc o).drew) w1) : Below w.drew.heap.size w.drew w1 := below_step (w := w.drew) (o := o) h
theorem file1 {w : World} {g : Nat} {a : Value} (h : Blk w g 57 #[a]) : (w.cell? ⟨g, 0, none⟩ = some a ∧ w.frozen? ⟨g, 0, none⟩ = false) ∧ g < w.heap.size := ⟨⟨h.cell 0, h.frozen 0⟩, h.lt⟩
theorem Rv.base {w : World} {B B' : Nat} {v : Value} {row : List Int} (h : Rv w B v row) (hB : B' ≤ B) : Rv w B' v row := by
  rcases h with h | ⟨q, c, e1, e2, e3⟩
  · exact .inl h
  · exact .inr ⟨q, c, e1, e2, Nat.le_trans hB e3⟩
theorem Rv.setCell {w : World} {B : Nat} {v : Value} {row : List Int} (h : Rv w B v row) {p : Addr} (hp : p.block < B) (u : Value) : Rv (w.setCell p u) B v row :=
  h.keep (fun k _ hk => Below.heap_setCell w p u k (by have := (h.own_lt hk).1; omega))

set_option maxHeartbeats 1600000 in
theorem exQuiet_big (o r a b x n pc : Int) (A : Option Addr) (zs : List Int) (c : Nat) (w : World) (hS : IntsAt w (Old w.heap.size) A zs) (hbig : (1048576 : Int) < zs.length) :
    Calls Try.prog 15 #[.agg #[.int .i64 o, .int .i64 r, .int .i64 a, .int .i64 b, .int .i64 x, .int .i64 n], .int .i64 pc, .agg #[.slice A zs.length c]] w fun e w' => e = .returned (.bool true) ∧ Below w.heap.size w w' := by
  have ks := fun w => szFile_any A zs.length c w hS.1
  rw [szR_neg hbig] at ks
  replace ks := hide ks
  have hb0 := below2 w (Obj.cells #[Value.int .i64 o, Value.int .i64 r, Value.int .i64 a, Value.int .i64 b, Value.int .i64 x, Value.int .i64 n] 66) (Obj.cells #[Value.slice A zs.length c] 88)
  clear hbig
  go_enter Try.func15, Try.ntmps15
  go_wp2_with fail
  refine (ks.out _).mono ?_
  rintro e w1 ⟨rfl, hb1⟩
  go_wp2_with fail
  go_ret
  exact ⟨rfl, below_then hb0 hb1⟩

set_option maxRecDepth 100000 in
set_option maxHeartbeats 12800000 in
theorem exQuiet_small (o r a b x n pc : Int) (A : Option Addr) (zs : List Int) (c : Nat) (w : World) (hS : IntsAt w (Old w.heap.size) A zs) (hsm : zs.length ≤ 1048576) :
    Calls Try.prog 15 #[.agg #[.int .i64 o, .int .i64 r, .int .i64 a, .int .i64 b, .int .i64 x, .int .i64 n], .int .i64 pc, .agg #[.slice A zs.length c]] w fun e w' => e = .returned (.bool true) ∧ Below w.heap.size w w' := by
  have ks := fun w => szFile_any A zs.length c w hS.1
  rw [szR_pos (show ¬ (1048576 : Int) < zs.length by omega)] at ks
  have hs0 : ¬ ((1048576 : Int) - zs.length < 0) := by omega
  generalize (1048576 : Int) - zs.length = s at *
  replace ks := hide ks
  have ki := fun A c w hS => (quiet_all o r a b x n pc A zs c w hS).1
  have kp := fun A c w hS => (quiet_all o r a b x n pc A zs c w hS).2
  have hrl := qRow_len o r a b n zs
  generalize qRow o r a b n zs = row at *
  generalize qPc o r a b n pc zs = pc' at *
  replace ki := hide ki
  replace kp := hide kp
  have hF := Blk.new (w.alloc (Obj.cells #[Value.int .i64 o, Value.int .i64 r, Value.int .i64 a, Value.int .i64 b, Value.int .i64 x, Value.int .i64 n] 66)) 88 #[Value.slice A zs.length c]
  simp only [World.size_alloc] at hF
  have H1 := hide (show Lx w o r a b x n A c zs ((w.alloc (Obj.cells #[Value.int .i64 o, Value.int .i64 r, Value.int .i64 a, Value.int .i64 b, Value.int .i64 x, Value.int .i64 n] 66)).alloc (Obj.cells #[Value.slice A zs.length c] 88)) from ⟨(Blk.new w _ _).alloc _, hF, hS.below (below2 w _ _) (fun _ h => h), below2 w _ _⟩)
  clear hF hS
  go_enter Try.func15, Try.ntmps15
  go_wp2_with fail
  refine (ks.out _).mono ?_
  rintro e w2 ⟨rfl, hb2⟩
  have H2 := hide (H1.out.next hb2)
  have hw2 : w.heap.size ≤ w2.heap.size := H2.out.below.size
  clear hb2 H1 ks
  go_wp2_with fail
  go_cut [8, 9] (fun s8 s9 wx => ∃ (T : Nat) (v : Value), s8 = .pointer (some ⟨T, 0, none⟩) ∧ s9 = .int .i64 pc' ∧ Blk wx T 57 #[v] ∧ Rv wx w2.heap.size v row ∧ Below w2.heap.size w2 wx)
  case first =>
    have B2 := hide (Below.refl w2.heap.size w2).drew
    obtain ⟨⟨f1, f2, f3, f4, f5, f6⟩, f7⟩ := H2.out.cells
    have H2 := hide (H2.out.next (Below.refl _ _).drew)
    obtain ⟨⟨e1, e2, e3, e4, e5, e6⟩, e7⟩ := H2.out.cells
    have hF2 : w.heap.size + 1 < w2.heap.size := H2.out.F.lt
    have hI2 : w.heap.size < w2.heap.size := H2.out.I.lt
    go_region_law (first
      | (go_simp; refine (toIns_any _ _ _ _ _ _ _).mono ?_; rintro e w3 ⟨rfl, hb3⟩; have H3 := hide (H2.out.next (by first | exact hb3 | exact below_da hb3 | exact below_step hb3)); have B3 := hide (below_then B2.out (by first | exact hb3 | exact below_da hb3 | exact below_step hb3)); obtain ⟨⟨c1, c2, c3, c4, c5, c6⟩, c7⟩ := H3.out.cells; have hF3 : w.heap.size + 1 < w3.heap.size := H3.out.F.lt; have hI3 : w.heap.size < w3.heap.size := H3.out.I.lt; obtain ⟨hcl3, hfz3⟩ := bcell hb3; (first | (have hl3 : w2.heap.size < w3.heap.size := (by have h := hb3.size; have h2 : (w2.alloc (Obj.cells #[Value.slice none 0 0] 57)).heap.size ≤ w3.heap.size := h; simp only [World.size_alloc] at h2; omega)) | skip); go_simp)
      | (go_simp; refine (toFile_any A zs c (Old w.heap.size) _ hsm (by first | exact H3.out.lts | exact fun b h => Nat.lt_of_lt_of_le (H3.out.lts b h) (by simp)) (by first | exact H3.out.row | exact H3.out.row.below (below1 _ _) H3.out.lts)).mono ?_; rintro e w4 ⟨q4, rfl, hq4, hr4, hb4⟩; have H4 := hide (H3.out.next (by first | exact hb4 | exact below_step hb4)); have B4 := hide (below_then B3.out (by first | exact hb4 | exact below_step hb4)); have hr4 := hide hr4; obtain ⟨hcl4, hfz4⟩ := bcell hb4; have hy4 : w3.heap.size < w4.heap.size := (by have h1 := hr4.out.lt; have h2 := hq4; first | omega | (simp only [World.size_alloc] at h2; omega)); have hy24 : w2.heap.size < w4.heap.size := (by have h1 := B3.out.size; omega); go_simp)
      | (go_simp; refine (kp.out _ _ _ (by first | exact (hr4.out.ints (by omega)).more (fun b e => by subst e; exact hr4.out.lt) | exact ((hr4.out.ints (by omega)).below (below1 _ _) (fun b e => by subst e; exact hr4.out.lt)).more (fun b e => by subst e; exact Nat.lt_of_lt_of_le hr4.out.lt (by simp)))).mono ?_; rintro e w5 ⟨v5, rfl, hv5, hb5⟩; obtain ⟨A5, c5, rfl⟩ := hv5.form; have B5 := hide (below_then B4.out (by first | exact hb5 | exact below_step hb5)); have hv5 := hide hv5; obtain ⟨hcl5, hfz5⟩ := bcell hb5; go_simp)
      | fail)
    all_goals
      go_wp2_with fail
      go_meet
      refine ⟨_, Value.slice A5 row.length c5, rfl, rfl, ?_, ?_, ?_⟩
      · first
          | exact Blk.new w5 _ _
          | exact ((Blk.new w4 57 #[Value.slice none 0 0]).below hb5 (by simp)).set_ 0 _
          | exact (((Blk.new w3 57 #[Value.slice none 0 0]).below hb4 (by simp)).below hb5 hy4).set_ 0 _
          | exact ((((show Blk (w2.alloc (Obj.cells #[Value.slice none 0 0] 57)).drew w2.heap.size 57 #[Value.slice none 0 0] from Blk.new w2 _ _).below hb3 (by show w2.heap.size < (w2.alloc _).heap.size; simp)).below hb4 hl3).below hb5 hy24).set_ 0 _
      · first
          | exact (hv5.out.next (below1 w5 _)).base (by first | exact B4.out.size | exact Nat.le_trans B4.out.size (by simp))
          | exact (hv5.out.setCell (by first | exact hy4 | exact hy24 | (show w4.heap.size < (w4.alloc _).heap.size; simp)) _).base (by first | exact B4.out.size | exact Nat.le_trans B4.out.size (by simp))
      · first
          | exact B5.out.alloc B5.out.size _
          | exact B5.out.setCell (by first | exact Nat.le_refl _ | exact B3.out.size | exact B4.out.size) _
  case rest =>
    obtain ⟨T8, v8, rfl, rfl, k8, r8, hbc⟩ := hcut
    obtain ⟨A8, c8, rfl⟩ := r8.form
    obtain ⟨w6, rfl⟩ : ∃ w6 : World, w6 = wc := ⟨_, rfl⟩
    have H := hide (H2.out.next hbc)
    have K8 := hide k8
    have R8 := hide (r8.base hw2)
    have hz6 : w.heap.size ≤ w6.heap.size := H.out.below.size
    clear k8 hbc H2
    obtain ⟨⟨e1, e2, e3, e4, e5, e6⟩, e7⟩ := H.out.cells
    go_wp2_with fail
    refine (toFile_any A zs c (Old w.heap.size) _ hsm H.out.lts H.out.row).mono ?_
    rintro e w7 ⟨qx, rfl, hqx, hrx, hb7⟩
    have hb7' := below_then hb7 (below1 w7 (Obj.cells #[Value.slice (some ⟨qx, 0, none⟩) zs.length zs.length] 57))
    have KX := hide (Blk.new w7 57 #[Value.slice (some ⟨qx, 0, none⟩) zs.length zs.length])
    have RX := hide (show Rv (w7.alloc (Obj.cells #[Value.slice (some ⟨qx, 0, none⟩) zs.length zs.length] 57)) w6.heap.size (.slice (some ⟨qx, 0, none⟩) zs.length zs.length) zs from Rv.next (.inr ⟨qx, _, rfl, hrx, hqx⟩) (below1 w7 _))
    have a8x := hide (R8.out.apart RX.out)
    replace RX := hide (RX.out.base hz6)
    replace H := hide (H.out.next hb7')
    replace K8 := hide (K8.out.below hb7' K8.out.lt)
    replace R8 := hide (R8.out.next hb7')
    clear e1 e2 e3 e4 e5 e6 e7 r8 hb7 hb7' hrx
    go_wp2_with fail
    obtain ⟨wq, hwq⟩ : ∃ wq, wq = w7.alloc (Obj.cells #[Value.slice (some ⟨qx, 0, none⟩) zs.length zs.length] 57) := ⟨_, rfl⟩
    rw [← hwq] at H K8 R8 KX RX ⊢
    generalize w7.heap.size = TX at *
    clear hwq hqx
    go_cut [11, 12] (fun s11 s12 wx => ∃ (T : Nat) (v : Value), s11 = .pointer (some ⟨T, 0, none⟩) ∧ s12 = .int .i64 pc' ∧ Blk wx T 57 #[v] ∧ Rv wx wq.heap.size v row ∧ Below wq.heap.size wq wx)
    case first =>
      have BQ := hide (Below.refl wq.heap.size wq).drew
      obtain ⟨⟨f1, f2, f3, f4, f5, f6⟩, f7⟩ := H.out.cells
      obtain ⟨⟨x0, -⟩, hTX⟩ := file1 KX.out
      have H := hide (H.out.next (Below.refl _ _).drew)
      have KX := hide (KX.out.drew)
      have RX := hide (RX.out.next (Below.refl _ _).drew)
      obtain ⟨⟨e1, e2, e3, e4, e5, e6⟩, e7⟩ := H.out.cells
      obtain ⟨⟨x1, -⟩, -⟩ := file1 KX.out
      have hI2 : w.heap.size < wq.heap.size := H.out.I.lt
      go_region_law (first
        | (go_simp; refine (toIns_any _ _ _ _ _ _ _).mono ?_; rintro e w8 ⟨rfl, hb8⟩; have hb8' : Below wq.drew.heap.size wq.drew w8 := (by first | exact hb8 | exact below_da hb8 | exact below_step hb8); have B8 := hide (below_then BQ.out hb8'); have KX8 := hide (KX.out.below hb8' KX.out.lt); have RX8 := hide (RX.out.next hb8'); obtain ⟨⟨y0, -⟩, hTX8⟩ := file1 KX8.out; obtain ⟨hcl8, hfz8⟩ := bcell hb8; (first | (have hl8 : wq.heap.size < w8.heap.size := (by have h := hb8.size; have h2 : (wq.alloc (Obj.cells #[Value.slice none 0 0] 57)).heap.size ≤ w8.heap.size := h; simp only [World.size_alloc] at h2; omega)) | skip); go_simp)
        | (go_simp; refine (ki.out _ _ _ (by first | exact RX8.out.ints (by omega) rfl | exact ((RX8.out.ints (by omega) rfl).below (below1 _ _) (fun _ h => h)).more (fun b h => Nat.lt_of_lt_of_le h (by simp)))).mono ?_; rintro e w9 ⟨v9, rfl, hv9, hb9⟩; obtain ⟨A9, c9, rfl⟩ := hv9.form; have B9 := hide (below_then B8.out (by first | exact hb9 | exact below_step hb9)); have hv9 := hide hv9; obtain ⟨hcl9, hfz9⟩ := bcell hb9; go_simp)
        | fail)
      all_goals
        go_wp2_with fail
        go_meet
        refine ⟨_, Value.slice A9 row.length c9, rfl, rfl, ?_, ?_, ?_⟩
        · first
            | exact Blk.new w9 _ _
            | exact ((Blk.new w8 57 #[Value.slice none 0 0]).below hb9 (by simp)).set_ 0 _
            | exact (((show Blk (wq.alloc (Obj.cells #[Value.slice none 0 0] 57)).drew wq.heap.size 57 #[Value.slice none 0 0] from Blk.new wq _ _).below hb8 (by show wq.heap.size < (wq.alloc _).heap.size; simp)).below hb9 hl8).set_ 0 _
        · first
            | exact (hv9.out.next (below1 w9 _)).base (by first | exact B8.out.size | exact Nat.le_trans B8.out.size (by simp))
            | exact (hv9.out.setCell (by first | exact hl8 | (show w8.heap.size < (w8.alloc _).heap.size; simp)) _).base (by first | exact B8.out.size | exact Nat.le_trans B8.out.size (by simp))
        · first
            | exact B9.out.alloc B9.out.size _
            | exact B9.out.setCell (by first | exact Nat.le_refl _ | exact B8.out.size) _
    case rest =>
      obtain ⟨T11, v11, rfl, rfl, k11, r11, hbc⟩ := hcut
      obtain ⟨A11, c11, rfl⟩ := r11.form
      obtain ⟨w10, rfl⟩ : ∃ w10 : World, w10 = wc := ⟨_, rfl⟩
      have a8g := hide (R8.out.apart r11)
      have axg := hide (RX.out.apart r11)
      have hzq : w.heap.size ≤ wq.heap.size := H.out.below.size
      have K11 := hide k11
      have R11 := hide (r11.base hzq)
      clear k11 r11
      replace H := hide (H.out.next hbc)
      replace K8 := hide (K8.out.below hbc K8.out.lt)
      replace R8 := hide (R8.out.next hbc)
      replace KX := hide (KX.out.below hbc KX.out.lt)
      replace RX := hide (RX.out.next hbc)
      clear hbc
      obtain ⟨⟨e1, e2, e3, e4, e5, e6⟩, e7⟩ := H.out.cells
      obtain ⟨⟨k8c, -⟩, k8l⟩ := file1 K8.out
      obtain ⟨⟨k11c, -⟩, k11l⟩ := file1 K11.out
      obtain ⟨⟨kxc, -⟩, kxl⟩ := file1 KX.out
      go_wp2_with fail
      refine (eqRv (by omega) R11.out R8.out).mono ?_
      rintro e w11 ⟨rfl, hb⟩
      clear e1 e2 e3 e4 e5 e6 e7 k8c k8l k11c k11l kxc kxl
      replace H := hide (H.out.next hb)
      replace K8 := hide (K8.out.below hb K8.out.lt)
      replace KX := hide (KX.out.below hb KX.out.lt)
      replace K11 := hide (K11.out.below hb K11.out.lt)
      replace R8 := hide (R8.out.next hb)
      replace RX := hide (RX.out.next hb)
      replace R11 := hide (R11.out.next hb)
      clear hb
      obtain ⟨⟨e1, e2, e3, e4, e5, e6⟩, e7⟩ := H.out.cells
      obtain ⟨⟨k8c, -⟩, k8l⟩ := file1 K8.out
      obtain ⟨⟨k11c, -⟩, k11l⟩ := file1 K11.out
      obtain ⟨⟨kxc, -⟩, kxl⟩ := file1 KX.out
      go_wp2_with fail
      go_cut [55] (fun s55 wx => s55 = .bool false ∧ Below w11.heap.size w11 wx)
      case first =>
        have BQ := hide (Below.refl w11.heap.size w11).drew
        have H := hide (H.out.next (Below.refl _ _).drew)
        have KX := hide (KX.out.drew)
        have RX := hide (RX.out.next (Below.refl _ _).drew)
        go_region_law (first
          | (go_simp; refine (toFile_any A zs c (Old w.heap.size) _ hsm H.out.lts H.out.row).mono ?_; rintro e w12 ⟨q12, rfl, hq12, hr12, hb12⟩; have KX12 := hide (KX.out.below hb12 KX.out.lt); have RX12 := hide (RX.out.next hb12); obtain ⟨⟨y0, -⟩, hTX12⟩ := file1 KX12.out; have B12 := hide (below_then BQ.out hb12); have hr12 := hide hr12; go_simp)
          | (go_simp; refine (eqRv (by omega) RX12.out (show Rv w12 0 (.slice (some ⟨q12, 0, none⟩) zs.length zs.length) zs from .inr ⟨q12, _, rfl, hr12.out, Nat.zero_le _⟩)).mono ?_; rintro e w13 ⟨rfl, hb13⟩; have B13 := hide (below_then B12.out hb13); go_simp)
          | fail)
        all_goals
          go_wp2_with fail
          go_meet
          exact ⟨rfl, B13.out⟩
      case rest =>
        obtain ⟨rfl, hb⟩ := hcut
        obtain ⟨w14, rfl⟩ : ∃ w14 : World, w14 = wc := ⟨_, rfl⟩
        clear e1 e2 e3 e4 e5 e6 e7 k8c k8l k11c k11l kxc kxl
        replace H := hide (H.out.next hb)
        replace K8 := hide (K8.out.below hb K8.out.lt)
        replace KX := hide (KX.out.below hb KX.out.lt)
        replace K11 := hide (K11.out.below hb K11.out.lt)
        replace R8 := hide (R8.out.next hb)
        replace RX := hide (RX.out.next hb)
        replace R11 := hide (R11.out.next hb)
        clear hb
        obtain ⟨⟨e1, e2, e3, e4, e5, e6⟩, e7⟩ := H.out.cells
        obtain ⟨⟨k8c, -⟩, k8l⟩ := file1 K8.out
        obtain ⟨⟨k11c, -⟩, k11l⟩ := file1 K11.out
        obtain ⟨⟨kxc, -⟩, kxl⟩ := file1 KX.out
        have hge : ¬ (((1 + zs.length : Nat) : Int) < 0) := by omega
        have hge2 : ¬ (((1 + row.length : Nat) : Int) < 0) := by omega
        go_wp2_with fail
        refine (markRv hsm RX.out).mono ?_
        rintro e w15 ⟨rfl, hx15, hg15⟩
        generalize ((1 + zs.length : Nat) : Int) = z1 at *
        replace K8 := hide (K8.out.grown hg15 RX.out (by decide))
        replace K11 := hide (K11.out.grown hg15 RX.out (by decide))
        replace KX := hide (KX.out.grown hg15 RX.out (by decide))
        replace R8 := hide (R8.out.grown hg15 a8x.out)
        replace R11 := hide (R11.out.grown hg15 axg.out.symm)
        replace H := hide (H.out.grown hg15 RX.out (Nat.le_refl _))
        clear RX hg15 hx15 a8x axg
        clear e1 e2 e3 e4 e5 e6 e7 k8c k8l k11c k11l kxc kxl
        obtain ⟨⟨e1, e2, e3, e4, e5, e6⟩, e7⟩ := H.out.cells
        obtain ⟨⟨k8c, -⟩, k8l⟩ := file1 K8.out
        obtain ⟨⟨k11c, -⟩, k11l⟩ := file1 K11.out
        go_wp2_with fail
        refine (eqRv (by omega) R11.out R8.out).mono ?_
        rintro e w16 ⟨rfl, hb⟩
        clear e1 e2 e3 e4 e5 e6 e7 k8c k8l k11c k11l
        replace H := hide (H.out.next hb)
        replace K8 := hide (K8.out.below hb K8.out.lt)
        replace K11 := hide (K11.out.below hb K11.out.lt)
        replace R8 := hide (R8.out.next hb)
        replace R11 := hide (R11.out.next hb)
        clear hb
        obtain ⟨⟨e1, e2, e3, e4, e5, e6⟩, e7⟩ := H.out.cells
        obtain ⟨⟨k8c, -⟩, k8l⟩ := file1 K8.out
        obtain ⟨⟨k11c, -⟩, k11l⟩ := file1 K11.out
        go_wp2_with fail
        refine (markRv (by omega) R11.out).mono ?_
        rintro e w17 ⟨rfl, hx17, hg17⟩
        replace K8 := hide (K8.out.grown hg17 R11.out (by decide))
        replace K11 := hide (K11.out.grown hg17 R11.out (by decide))
        replace R8 := hide (R8.out.grown hg17 a8g.out)
        replace H := hide (H.out.grown hg17 R11.out (Nat.le_refl _))
        replace R11 := hide hx17
        clear hg17 hx17
        clear e1 e2 e3 e4 e5 e6 e7 k8c k8l k11c k11l
        obtain ⟨⟨e1, e2, e3, e4, e5, e6⟩, e7⟩ := H.out.cells
        obtain ⟨⟨k8c, -⟩, k8l⟩ := file1 K8.out
        obtain ⟨⟨k11c, -⟩, k11l⟩ := file1 K11.out
        have kh := hide (fun (wx : World) (h : Rv wx w.heap.size (.slice A11 row.length c11) (marks 1 row.length)) => heldRv (w := wx) (B := w.heap.size) (v := .slice A11 row.length c11) (m := row.length) (by omega) h)
        generalize ((1 + row.length : Nat) : Int) = z2 at *
        go_wp2_with fail
        refine (kh.out _ R11.out).mono ?_
        rintro e w18 ⟨rfl, hb⟩
        clear e1 e2 e3 e4 e5 e6 e7 k8c k8l k11c k11l
        replace H := hide (H.out.next hb)
        replace K8 := hide (K8.out.below hb K8.out.lt)
        replace K11 := hide (K11.out.below hb K11.out.lt)
        replace R8 := hide (R8.out.next hb)
        replace R11 := hide (R11.out.next hb)
        clear hb
        go_wp2_with fail
        go_cut [16, 17] (fun s16 s17 wx => ∃ (T : Nat) (v : Value), s16 = .pointer (some ⟨T, 0, none⟩) ∧ s17 = .int .i64 pc' ∧ Blk wx T 57 #[v] ∧ Rv wx w18.heap.size v row ∧ Below w18.heap.size w18 wx)
        case first =>
          have B2 := hide (Below.refl w18.heap.size w18).drew
          obtain ⟨⟨f1, f2, f3, f4, f5, f6⟩, f7⟩ := H.out.cells
          have H := hide (H.out.next (Below.refl _ _).drew)
          obtain ⟨⟨e1, e2, e3, e4, e5, e6⟩, e7⟩ := H.out.cells
          have hF2 : w.heap.size + 1 < w18.heap.size := H.out.F.lt
          have hI2 : w.heap.size < w18.heap.size := H.out.I.lt
          go_region_law (first
            | (go_simp; refine (toIns_any _ _ _ _ _ _ _).mono ?_; rintro e w3 ⟨rfl, hb3⟩; have H3 := hide (H.out.next (by first | exact hb3 | exact below_da hb3 | exact below_step hb3)); have B3 := hide (below_then B2.out (by first | exact hb3 | exact below_da hb3 | exact below_step hb3)); obtain ⟨⟨c1, c2, c3, c4, c5, c6⟩, c7⟩ := H3.out.cells; have hF3 : w.heap.size + 1 < w3.heap.size := H3.out.F.lt; have hI3 : w.heap.size < w3.heap.size := H3.out.I.lt; obtain ⟨hcl3, hfz3⟩ := bcell hb3; (first | (have hl3 : w18.heap.size < w3.heap.size := (by have h := hb3.size; have h2 : (w18.alloc (Obj.cells #[Value.slice none 0 0] 57)).heap.size ≤ w3.heap.size := h; simp only [World.size_alloc] at h2; omega)) | skip); go_simp)
            | (go_simp; refine (toFile_any A zs c (Old w.heap.size) _ hsm (by first | exact H3.out.lts | exact fun b h => Nat.lt_of_lt_of_le (H3.out.lts b h) (by simp)) (by first | exact H3.out.row | exact H3.out.row.below (below1 _ _) H3.out.lts)).mono ?_; rintro e w4 ⟨q4, rfl, hq4, hr4, hb4⟩; have H4 := hide (H3.out.next (by first | exact hb4 | exact below_step hb4)); have B4 := hide (below_then B3.out (by first | exact hb4 | exact below_step hb4)); have hr4 := hide hr4; obtain ⟨hcl4, hfz4⟩ := bcell hb4; have hy4 : w3.heap.size < w4.heap.size := (by have h1 := hr4.out.lt; have h2 := hq4; first | omega | (simp only [World.size_alloc] at h2; omega)); have hy24 : w18.heap.size < w4.heap.size := (by have h1 := B3.out.size; omega); go_simp)
            | (go_simp; refine (ki.out _ _ _ (by first | exact (hr4.out.ints (by omega)).more (fun b e => by subst e; exact hr4.out.lt) | exact ((hr4.out.ints (by omega)).below (below1 _ _) (fun b e => by subst e; exact hr4.out.lt)).more (fun b e => by subst e; exact Nat.lt_of_lt_of_le hr4.out.lt (by simp)))).mono ?_; rintro e w5 ⟨v5, rfl, hv5, hb5⟩; obtain ⟨A5, c5, rfl⟩ := hv5.form; have B5 := hide (below_then B4.out (by first | exact hb5 | exact below_step hb5)); have hv5 := hide hv5; obtain ⟨hcl5, hfz5⟩ := bcell hb5; go_simp)
            | fail)
          all_goals
            go_wp2_with fail
            go_meet
            refine ⟨_, Value.slice A5 row.length c5, rfl, rfl, ?_, ?_, ?_⟩
            · first
                | exact Blk.new w5 _ _
                | exact ((Blk.new w4 57 #[Value.slice none 0 0]).below hb5 (by simp)).set_ 0 _
                | exact (((Blk.new w3 57 #[Value.slice none 0 0]).below hb4 (by simp)).below hb5 hy4).set_ 0 _
                | exact ((((show Blk (w18.alloc (Obj.cells #[Value.slice none 0 0] 57)).drew w18.heap.size 57 #[Value.slice none 0 0] from Blk.new w18 _ _).below hb3 (by show w18.heap.size < (w18.alloc _).heap.size; simp)).below hb4 hl3).below hb5 hy24).set_ 0 _
            · first
                | exact (hv5.out.next (below1 w5 _)).base (by first | exact B4.out.size | exact Nat.le_trans B4.out.size (by simp))
                | exact (hv5.out.setCell (by first | exact hy4 | exact hy24 | (show w4.heap.size < (w4.alloc _).heap.size; simp)) _).base (by first | exact B4.out.size | exact Nat.le_trans B4.out.size (by simp))
            · first
                | exact B5.out.alloc B5.out.size _
                | exact B5.out.setCell (by first | exact Nat.le_refl _ | exact B3.out.size | exact B4.out.size) _
        case rest =>
          obtain ⟨T16, v16, rfl, rfl, k16, r16, hb⟩ := hcut
          obtain ⟨A16, c16, rfl⟩ := r16.form
          obtain ⟨w19, rfl⟩ : ∃ w19 : World, w19 = wc := ⟨_, rfl⟩
          have K16 := hide k16
          have R16 := hide r16
          clear k16 r16
          replace H := hide (H.out.next hb)
          replace K8 := hide (K8.out.below hb K8.out.lt)
          replace K11 := hide (K11.out.below hb K11.out.lt)
          replace R8 := hide (R8.out.next hb)
          replace R11 := hide (R11.out.next hb)
          clear hb
          obtain ⟨⟨e1, e2, e3, e4, e5, e6⟩, e7⟩ := H.out.cells
          obtain ⟨⟨k8c, -⟩, k8l⟩ := file1 K8.out
          obtain ⟨⟨k11c, -⟩, k11l⟩ := file1 K11.out
          obtain ⟨⟨k16c, -⟩, k16l⟩ := file1 K16.out
          go_wp2_with fail
          refine (eqRv (by omega) R16.out R8.out).mono ?_
          rintro e w20 ⟨rfl, hb⟩
          clear e1 e2 e3 e4 e5 e6 e7 k8c k8l k11c k11l k16c k16l
          replace H := hide (H.out.next hb)
          replace K8 := hide (K8.out.below hb K8.out.lt)
          replace K11 := hide (K11.out.below hb K11.out.lt)
          replace R8 := hide (R8.out.next hb)
          replace R11 := hide (R11.out.next hb)
          replace K16 := hide (K16.out.below hb K16.out.lt)
          replace R16 := hide (R16.out.next hb)
          clear hb
          obtain ⟨⟨e1, e2, e3, e4, e5, e6⟩, e7⟩ := H.out.cells
          obtain ⟨⟨k8c, -⟩, k8l⟩ := file1 K8.out
          obtain ⟨⟨k11c, -⟩, k11l⟩ := file1 K11.out
          obtain ⟨⟨k16c, -⟩, k16l⟩ := file1 K16.out
          go_wp2_with fail
          refine (kh.out _ R11.out).mono ?_
          rintro e w21 ⟨rfl, hb⟩
          replace H := hide (H.out.next hb)
          go_wp2_with fail
          go_ret
          exact ⟨rfl, H.out.below⟩
theorem exQuiet_walk (o r a b x n pc : Int) (A : Option Addr) (zs : List Int) (c : Nat) (w : World) (hS : IntsAt w (Old w.heap.size) A zs) :
    Calls Try.prog 15 #[.agg #[.int .i64 o, .int .i64 r, .int .i64 a, .int .i64 b, .int .i64 x, .int .i64 n], .int .i64 pc, .agg #[.slice A zs.length c]] w fun e w' => e = .returned (.bool true) ∧ Below w.heap.size w w' := by
  by_cases h : (1048576 : Int) < zs.length
  · exact exQuiet_big o r a b x n pc A zs c w hS h
  · exact exQuiet_small o r a b x n pc A zs c w hS (by omega)
end Go.Proofs.Ytbchiiggfhdnkaa
