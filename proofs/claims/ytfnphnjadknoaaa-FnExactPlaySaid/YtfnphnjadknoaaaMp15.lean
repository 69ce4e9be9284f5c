/- The program's crews as they are read: reached, standsOk, oneIf, workersOk, accountOf. -/
import Derived.Test.YtfnphnjadknoaaaMp0
import Derived.Test.YtfnphnjadknoaaaMp8
import Derived.Test.YtfnphnjadknoaaaMp14
import Derived.Deep.RegionHeld3
namespace Go.Proofs.Ytfnphnjadknoaaa
open Go.RowKit Go.Shelf

set_option maxHeartbeats 800000 in
theorem value_any (v s : Int) (K : Value) (w : World) (hK : ∃ A n c, K = .slice A n c) :
    Calls Try.prog 72 #[.agg #[.int .i64 v, K], .int .i64 s] w fun e w' => e = .returned (.int .i64 (wrap64 (v + wrap64 (2 * s)))) ∧ w' = w.alloc (.cells #[.int .i64 v, K] 42) := by
  obtain ⟨A, n, c, rfl⟩ := hK
  go_enter Try.func72, Try.ntmps72
  go_wp2_with fail
  go_ret
  exact ⟨rfl, rfl⟩

def SerOk (l : List JobD) (pre : List { k : Nat // k < l.length }) (f : Nat → Int) : Prop := pre.map (·.1) = backTo l.length pre.length → ∀ m, l.length - pre.length ≤ m → m < l.length → f m = valJ l m
structure SerAt (n q : Nat) (W : World) (f : Nat → Int) : Prop where
  V : FnAt W q n f
  B : Blk W (q + 1) 26 #[.slice (some ⟨q, 0, none⟩) n n]
  Z : q + 3 ≤ W.heap.size
theorem blkOwn {A B : World} {g : Nat} {t : TypeId} {cs : Array Value} {row : Option Nat} (h : Blk A g t cs) (hg : A.grownBy B row) (hr : ∀ r, row = some r → ∃ o : Obj, A.heap[r]? = some o ∧ o.isCells = false) : Blk B g t cs :=
  (hg.block g h.lt (fun e => by
    obtain ⟨o, ho, hc⟩ := hr g e.symm
    have h2 : A.heap[g]? = some (.cells cs t (0, 0)) := h
    rw [h2] at ho
    cases ho
    cases hc)).trans h
theorem SerAt.own {n q : Nat} {A B : World} {f : Nat → Int} {row : Option Nat} (h : SerAt n q A f) (hg : A.grownBy B row) (hr : ∀ r, row = some r → ∃ o : Obj, A.heap[r]? = some o ∧ o.isCells = false) : SerAt n q B f := by
  obtain ⟨⟨cs, h1, h2⟩, hB, hZ⟩ := h
  exact ⟨⟨cs, blkOwn h1 hg hr, h2⟩, blkOwn hB hg hr, Nat.le_trans hZ hg.size⟩
theorem SerAt.alloc {n q : Nat} {W : World} {f : Nat → Int} (h : SerAt n q W f) (o : Obj) : SerAt n q (W.alloc o) f := by
  obtain ⟨⟨cs, h1, h2⟩, hB, hZ⟩ := h
  exact ⟨⟨cs, h1.alloc o, h2⟩, hB.alloc o, by rw [World.size_alloc]; omega⟩
theorem SerAt.set_ {n q k : Nat} {W : World} {f : Nat → Int} (h : SerAt n q W f) (hk : k < n) (v : Int) : SerAt n q (W.setCell ⟨q, k, none⟩ (.int .i64 v)) (upd f k v) :=
  ⟨h.V.set_ hk v, h.B.far (by show q + 1 ≠ q; omega) _, by simpa using h.Z⟩
theorem SerOk.step {l : List JobD} (hT : Tree l) {pre : List { k : Nat // k < l.length }} {f : Nat → Int} (h : SerOk l pre f) (x : { k : Nat // k < l.length }) : SerOk l (pre ++ [x]) (upd f x.1 (wrap64 ((getj l x.1).v + wrap64 (2 * sumK (fun y => f y.toNat) (getj l x.1).ks)))) := by
  intro he m hm hl
  rw [List.length_append, List.length_singleton] at he hm
  rw [backTo_succ, List.map_append] at he
  obtain ⟨e1, e2⟩ := List.append_inj' he rfl
  have e3 : x.1 = l.length - 1 - pre.length := by simpa using e2
  have h1 := h e1
  unfold upd
  by_cases e : m = x.1
  · rw [if_pos e, e, hT.val x.2]
    rw [sumK_congr (g := fun x => valJ l x.toNat)]
    intro y hy
    have hy2 : (x.1 : Int) < y ∧ y < l.length := by
      obtain ⟨k, hk, ek⟩ := List.getElem_of_mem hy
      have := hT.kid x.1 x.2 k hk
      rwa [geti_eq hk, ek] at this
    have := x.2
    exact h1 y.toNat (by omega) (by omega)
  · rw [if_neg e]
    exact h1 m (by omega) hl

section
attribute [local go_sem] Oper.semAt_some
set_option maxRecDepth 100000 in
set_option maxHeartbeats 4000000 in
theorem serial_in (f : Nat) (hf : 6 ≤ f) (A : Option Addr) (l : List JobD) (c : Nat) (w : World) (hT : Hid (Tree l)) (hsz : ∀ k, (getj l k).ks.length ≤ 1048576) (ha : JobsAt w (Old w.heap.size) A l) :
    CallsIn Fence.wide f Try.prog 31 #[.slice A l.length c] w fun e w' => e = .returned (.int .i64 (valJ l 0)) ∧ Below w.heap.size w w' := by
  have h1 : 1 ≤ f := by omega
  have h30 := hT.out.top
  have h01 := hT.out.one
  have kj := jobsOk_any A l c _ w hsz (fun _ h => h) ha
  rw [jobsB_yes hT.out] at kj
  replace kj := hide kj
  have kl := hide (fun n w => (backward_any A n c w))
  have hmk := make_ints l.length (by omega)
  refine callsIn_of_wp_marks Try.func31 rfl trivial ?_ rfl
  simp only [Try.ntmps31, List.size_toArray, List.length_cons, List.length_nil, Nat.reduceAdd, Nat.reduceSub, Array.replicate_succ, Array.replicate_zero, List.push_toArray, List.append_toArray, List.nil_append, List.cons_append]
  gi_wp2_with (first | (refine ⟨trivial, ?_⟩; gi_at_call 33; refine (callsIn_wide.2 kj.out).mono ?_; rintro e w1 ⟨rfl, hb1⟩) | (refine ⟨trivial, ?_⟩; gi_at_call 71; refine (callsIn_wide.2 (kl.out _ _)).mono ?_; rintro e w' ⟨rfl, rfl⟩))
  clear hmk
  obtain ⟨q, hq⟩ : ∃ q, q = w1.heap.size := ⟨_, rfl⟩
  rw [← hq]
  have V0 := FnAt.zero w1 l.length
  have hBa := (((Below.refl _ w1).alloc (Nat.le_refl _) (Obj.cells (zrow #[.int .i64 0] l.length) 3)).alloc (by simp) (Obj.cells #[Value.slice (some ⟨w1.heap.size, 0, none⟩) l.length l.length] 26)).alloc (by simp; omega) (Obj.cells #[Value.slice A l.length c] 23)
  have r1 := Blk.new (w1.alloc (Obj.cells (zrow #[.int .i64 0] l.length) 3)) 26 #[Value.slice (some ⟨w1.heap.size, 0, none⟩) l.length l.length]
  have r2 := Blk.new ((w1.alloc (Obj.cells (zrow #[.int .i64 0] l.length) 3)).alloc (Obj.cells #[Value.slice (some ⟨w1.heap.size, 0, none⟩) l.length l.length] 26)) 23 #[Value.slice A l.length c]
  simp only [World.size_alloc] at r1 r2
  rw [← hq] at hBa V0 r1 r2
  have hS0 : SerAt l.length q (((w1.alloc (Obj.cells (zrow #[.int .i64 0] l.length) 3)).alloc (Obj.cells #[Value.slice (some ⟨q, 0, none⟩) l.length l.length] 26)).alloc (Obj.cells #[Value.slice A l.length c] 23)) (fun _ => 0) := by
    refine ⟨?_, r1.alloc _, by simp [hq]⟩
    obtain ⟨cs, v1, v2⟩ := V0
    exact ⟨cs, (v1.alloc _).alloc _, v2⟩
  have hsz0 : (((w1.alloc (Obj.cells (zrow #[.int .i64 0] l.length) 3)).alloc (Obj.cells #[Value.slice (some ⟨q, 0, none⟩) l.length l.length] 26)).alloc (Obj.cells #[Value.slice A l.length c] 23)).heap.size = q + 3 := by simp [hq]
  obtain ⟨W0, hW0⟩ : ∃ W0, ((w1.alloc (Obj.cells (zrow #[.int .i64 0] l.length) 3)).alloc (Obj.cells #[Value.slice (some ⟨q, 0, none⟩) l.length l.length] 26)).alloc (Obj.cells #[Value.slice A l.length c] 23) = W0 := ⟨_, rfl⟩
  rw [hW0] at hS0 hBa r2 hsz0 ⊢
  have hbw0 := hb1.trans (hBa.mono (by rw [hq]; exact hb1.size))
  have hwq : w.heap.size ≤ q := by rw [hq]; exact hb1.size
  obtain ⟨b, off, Af, cf, rfl, hbS, hV⟩ := ha.vs (by omega)
  have hV0 : JobVs W0 (fun b => b < w.heap.size ∨ b = q + 2) b off l Af cf := by
    have := hV.below hbw0 (fun _ h => h)
    exact ⟨fun h => .inl (this.mem h), this.val, this.kids, fun k hk => (this.ints k hk).more (fun _ h => .inl h)⟩
  replace hq := hide hq
  clear hW0 r1 V0 hBa hb1 kj kl
  have kv := hide (fun v s K w hK => value_any v s K w hK)
  have hown : ∀ f, OwnFrom W0.heap.size (fun (_ : Unit) W => SerAt l.length q W f) := fun f _ X Y row hs hg hr => hs.own hg (fun r e => (hr r e).2)
  refine wpIn_rangeFunc_ownH rfl h1 (gf := 112) (lb := #[.pointer (some ⟨q + 2, 0, none⟩)]) rfl trivial (enters_of Try.func112 (by kernel_rfl) rfl)
    (backward_stops Fence.wide (f - 1) trivial rfl (by omega) (q + 2) (fun b => b < w.heap.size ∨ b = q + 2) b off c l Af cf h30 W0 (.inr rfl) (fun b h => by rcases h with h | h <;> omega) (r2.cell 0) hV0) SameOn.trans (fun W l' o o' hl' _ _ _ => SameOn.putObj _ (fun h => by rcases h with h | h <;> omega)) (Below.refl _ _) (fun _ => rfl)
    (fun pre W => (∃ f, SerOk l pre f ∧ SerAt l.length q W f) ∧ Below w.heap.size w W)
    (fun _ _ _ => False)
    (OwnFrom.and (fun s X Y row hs hg hr => by obtain ⟨f, h1, h2⟩ := hs; exact ⟨f, h1, hown f () X Y row h2 hg hr⟩) (ownFrom_below (Nat.le_refl _) (by omega)))
    (fun c' => fun s X Y row hs hg hr => hs)
    ⟨⟨fun _ => 0, fun _ m h1 h2 => by simp at h1; omega, hS0⟩, hbw0⟩
    (fun x a' W => ∃ Bx, q + 2 < Bx ∧ Blk W Bx 42 #[.int .i64 (getj l x.1).v, .slice (Af x.1) (getj l x.1).ks.length (cf x.1)] ∧ a' = { tmps := #[.slice (some ⟨b, off, none⟩) l.length c, undef, .int .i64 0, .pointer (some ⟨q + 1, 0, none⟩), .int .i64 (x.1 : Int), .pointer (some ⟨Bx, 0, none⟩), undef, undef, undef, .slice (some ⟨b, off, none⟩) l.length c, .bool true, .bool false, .slice (some ⟨b, off, none⟩) l.length c, .int .i64 (l.length : Int), .slice (some ⟨q, 0, none⟩) l.length l.length, .slice (some ⟨b, off, none⟩) l.length c, .func (.func 112) #[] #[.pointer (some ⟨q + 2, 0, none⟩)], .int .i64 (x.1 : Int), jobV l Af cf x.1, undef, undef, undef, undef, undef, undef, undef, undef, undef, undef, undef, undef, undef, undef, undef, undef, undef, undef, undef, undef, undef, undef, undef], defers := [] })
    (fun x a' _ X Y row hs hg hr => by obtain ⟨Bx, h1, h2, h3⟩ := hs; exact ⟨Bx, h1, blkOwn h2 hg (fun r e => (hr r e).2), h3⟩)
    ?assign ?body ?done ?stop
  case assign =>
    rintro lp pre x W K ⟨⟨f', hp, hR1⟩, hB1⟩ hK
    simp only [jobV] at hK ⊢
    gi_wp2
    exact hK _ _ ((KeepsOthers.alloc _ _).from _) (SameOn.of_below ((Below.refl _ W).alloc (Nat.le_refl _) _) (fun b h => by have := hR1.Z; have := hB1.size; rcases h with h | h <;> omega)) ⟨⟨f', hp, hR1.alloc _⟩, hB1.alloc hB1.size _⟩ ⟨W.heap.size, by have := hR1.Z; omega, Blk.new W _ _, rfl⟩
  case body =>
    rintro lp pre ⟨x, hx⟩ a' W hl ⟨r, hr⟩ ⟨⟨f', hp, hR1⟩, hB1⟩ ⟨Bx, hBx, hX, rfl⟩ hlt
    simp only [jobV]
    have hok := hide (hp.step hT.out ⟨x, hx⟩)
    dsimp only at hX hok ⊢
    have x0 := hX.cell 0
    have x1 := hX.cell 1
    have x2 := hR1.B.cell 0
    simp only [List.getElem?_toArray, List.getElem?_cons_zero, List.getElem?_cons_succ] at x0 x1 x2
    have hki := hide ((hV.ints x hx).below hB1 (fun _ h => h))
    have hkn := hsz x
    have hR2 := hide hR1
    have hX2 := hide hX
    replace hB1 := hide hB1
    clear hR1 hX hp
    gi_wp2
    gi_loopw [6, 22] (fun s i wr => ∃ k : Nat, k ≤ (getj l x).ks.length ∧ i = .int .i64 k ∧ s = .int .i64 (sumK (fun y => f' y.toNat) ((getj l x).ks.take k)) ∧ wr = W) (fun _ i _ => (getj l x).ks.length - (intOf i).toNat)
    case atStart => exact ⟨0, by omega, rfl, by simp [sumK], rfl⟩
    case round =>
      obtain ⟨k, hk, rfl, rfl, rfl⟩ := hrel
      by_cases hlk : k < (getj l x).ks.length
      · obtain ⟨b', off', hAf, hb', h5⟩ := hki.out.at_ hlk
        rw [hAf]
        have hx3 := hT.out.kid x hx k hlk
        obtain ⟨m, hm⟩ : ∃ m : Nat, geti (getj l x).ks k = m := ⟨(geti (getj l x).ks k).toNat, by omega⟩
        have hS2 := hide (sumK_take (fun y => f' y.toNat) hlk)
        rw [hm] at h5 hx3 hS2
        simp only [Int.toNat_natCast] at hS2
        obtain ⟨h6, -⟩ := hR2.out.V.cell (k := m) (by omega)
        obtain ⟨s, hs⟩ : ∃ s, s = sumK (fun y => f' y.toNat) ((getj l x).ks.take k) := ⟨_, rfl⟩
        rw [← hs] at hS2 ⊢
        obtain ⟨z, hz⟩ : ∃ z, z = f' m := ⟨_, rfl⟩
        rw [← hz] at hS2 h6
        have hlk' : (k : Int) < (getj l x).ks.length := by omega
        have hml : (m : Int) < l.length := by omega
        clear hm hs hz hAf
        gi_wp2
        go_roundw
        case rel => exact ⟨k + 1, by omega, by go_num, by rw [hS2.out], trivial⟩
        case measure => simp [intOf]; omega
      · obtain rfl : k = (getj l x).ks.length := by omega
        rw [List.take_of_length_le (Nat.le_refl _)]
        have hxl : (x : Int) < l.length := by omega
        obtain ⟨h6, h7⟩ := hR2.out.V.cell (k := x) hx
        have hlt6 := hR2.out.V.lt
        obtain ⟨z, hz⟩ : ∃ z, z = f' x := ⟨_, rfl⟩
        rw [← hz] at h6
        obtain ⟨s, hs⟩ : ∃ s, s = sumK (fun y => f' y.toNat) (getj l x).ks := ⟨_, rfl⟩
        rw [← hs] at hok ⊢
        have hEnd := hide (show KeepsFrom W0.heap.size wr ((wr.setCell ⟨q, x, none⟩ (.int .i64 (wrap64 ((getj l x).v + wrap64 (2 * s))))).alloc (Obj.cells #[.int .i64 (getj l x).v, .slice (Af x) (getj l x).ks.length (cf x)] 42)).drew ∧ SameOn (fun b => b < w.heap.size ∨ b = q + 2) wr ((wr.setCell ⟨q, x, none⟩ (.int .i64 (wrap64 ((getj l x).v + wrap64 (2 * s))))).alloc (Obj.cells #[.int .i64 (getj l x).v, .slice (Af x) (getj l x).ks.length (cf x)] 42)).drew ∧ (∃ f, SerOk l (pre ++ [⟨x, hx⟩]) f ∧ SerAt l.length q ((wr.setCell ⟨q, x, none⟩ (.int .i64 (wrap64 ((getj l x).v + wrap64 (2 * s))))).alloc (Obj.cells #[.int .i64 (getj l x).v, .slice (Af x) (getj l x).ks.length (cf x)] 42)).drew f) ∧ Below w.heap.size w ((wr.setCell ⟨q, x, none⟩ (.int .i64 (wrap64 ((getj l x).v + wrap64 (2 * s))))).alloc (Obj.cells #[.int .i64 (getj l x).v, .slice (Af x) (getj l x).ks.length (cf x)] 42)).drew from by
          have hZ := hR2.out.Z
          have hsa := ((hR2.out.set_ hx (wrap64 ((getj l x).v + wrap64 (2 * s)))).alloc (Obj.cells #[.int .i64 (getj l x).v, .slice (Af x) (getj l x).ks.length (cf x)] 42))
          have hbs := hB1.out.size
          refine ⟨(((KeepsOthers.setCell wr ⟨q, x, none⟩ (.int .i64 (wrap64 ((getj l x).v + wrap64 (2 * s))))).trans (KeepsOthers.alloc _ _)).trans (KeepsOthers.drew _)).from _, fun b hb => ?_, ⟨_, hok.out, ⟨hsa.V, hsa.B, hsa.Z⟩⟩, (((hB1.out.setCell (p := ⟨q, x, none⟩) hwq _).alloc (by simpa using hbs) _).drew)⟩
          have h2 : b < wr.heap.size := by rcases hb with h | h <;> omega
          have h3 : b ≠ q := by rcases hb with h | h <;> omega
          exact (Below.heap_alloc _ _ b (by simpa using h2)).trans (Below.heap_setCell wr ⟨q, x, none⟩ _ b h3))
        clear hz hs hok
        have hd : 1 ≤ f - 1 - 1 := by omega
        have hl1 := hR2.out.B.lt
        have hl2 := hX2.out.lt
        have hmx : Try.prog.follows .mixedOrders = true := by kernel_rfl
        gi_wp2
        gi_region_with_o (refine ⟨trivial, ?_⟩; gi_at_call 72; refine (CallsIn.inRound lp (callsIn_wide.2 (kv.out _ _ _ _ ⟨_, _, _, rfl⟩))).mono ?_; rintro e w' ⟨rfl, rfl⟩)
        all_goals (gi_wp2; exact ⟨hEnd.out.1, hEnd.out.2.1, hEnd.out.2.2.1, hEnd.out.2.2.2⟩)
  case done =>
    rintro Dd ys W hD hys ⟨⟨f', hp, hR1⟩, hB1⟩ hK
    have hyl : ys.length = l.length := by
      have := congrArg List.length hys
      rwa [List.length_map, backTo_length] at this
    have hv : f' 0 = valJ l 0 := hp (by rw [hyl]; exact hys) 0 (by omega) (by omega)
    have x2 := hR1.B.cell 0
    have x3 := (hR1.V.cell (k := 0) (by omega)).1
    simp only [List.getElem?_toArray, List.getElem?_cons_zero] at x2
    rw [hv] at x3
    have h0l : (0 : Int) < l.length := by omega
    replace hR1 := hide hR1
    replace hB1 := hide hB1
    replace hK := hide hK
    clear hyl hv hp hys
    gi_wp2
    refine ⟨by simp, .inl ⟨_, _, rfl, run_takeDeferred hK.out, ?_⟩⟩
    exact ⟨_, results_tmp rfl _ _ _, rfl, hB1.out.trans (belowK_b (w := w) (Nat.le_refl _) W Dd _ _ (by omega) hK.out rfl rfl)⟩
  case stop =>
    rintro Dd c' pre W hD hsp h hK
    exact h.elim
end

set_option maxHeartbeats 1600000 in
theorem serial_any (A : Option Addr) (l : List JobD) (c : Nat) (w : World) (hsz : ∀ k, (getj l k).ks.length ≤ 1048576) (ha : JobsAt w (Old w.heap.size) A l) :
    Calls Try.prog 31 #[.slice A l.length c] w fun e w' => e = .returned (.int .i64 (serialI l)) ∧ Below w.heap.size w w' := by
  cases hJ : jobsB l
  · have kj := jobsOk_any A l c _ w hsz (fun _ h => h) ha
    rw [hJ] at kj
    replace kj := hide kj
    have hE := hide (show serialI l = 0 from by unfold serialI; rw [hJ]; rfl)
    clear ha hJ
    go_enter Try.func31, Try.ntmps31
    go_wp2_with (go_at_call 33; refine kj.out.mono ?_; rintro e w1 ⟨rfl, hb⟩)
    go_ret
    exact ⟨ret_int hE.out.symm, hb⟩
  · rw [show serialI l = valJ l 0 from by unfold serialI; rw [hJ]; rfl]
    exact callsIn_wide.1 (serial_in 6 (by omega) A l c w (hide (jobsB_tree hJ)) hsz ha)
end Go.Proofs.Ytfnphnjadknoaaa

namespace Go.Proofs.Ytfnphnjadknoaaa
open Go.RowKit

def crewCells (a : PA) (p : PoolD) (qp : Nat) : Array Value := #[.slice a.A0 p.js.length a.c0, .slice a.A1 p.dq.length a.c1, .slice a.A2 p.ran.length a.c2, .slice a.A3 p.dn.length a.c3, .slice a.A4 p.lf.length a.c4, .slice a.A5 p.sm.length a.c5, .slice a.A6 p.vl.length a.c6, .slice (some ⟨qp, 0, none⟩) p.js.length p.js.length]
structure CrewR (w : World) (S : Nat → Prop) (g qp : Nat) (a : PA) (p : PoolD) : Prop where
  box : Blk w g 98 (crewCells a p qp)
  par : FnAt w qp p.js.length (fun m => parI p.js p.js.length (m : Int))
  pool : PoolAt w S a p
  lt : ∀ b, S b → b < w.heap.size
structure LenP (p : PoolD) : Prop where
  ran : p.ran.length = p.js.length
  dn : p.dn.length = p.js.length
  lf : p.lf.length = p.js.length
  sm : p.sm.length = p.js.length
  vl : p.vl.length = p.js.length
theorem CrewR.next {w w' : World} {S : Nat → Prop} {g qp : Nat} {a : PA} {p : PoolD} (h : CrewR w S g qp a p) (hb : Below w.heap.size w w') : CrewR w' S g qp a p :=
  ⟨h.box.below hb h.box.lt, h.par.next hb, h.pool.below hb h.lt, fun b hs => Nat.lt_of_lt_of_le (h.lt b hs) hb.size⟩
theorem CrewR.drew {w : World} {S : Nat → Prop} {g qp : Nat} {a : PA} {p : PoolD} (h : CrewR w S g qp a p) : CrewR w.drew S g qp a p := h.next (Below.refl _ _).drew
theorem box8 {w : World} {g : Nat} {t : TypeId} {a0 a1 a2 a3 a4 a5 a6 a7 : Value} (h : Blk w g t #[a0, a1, a2, a3, a4, a5, a6, a7]) :
    (w.cell? ⟨g, 0, none⟩ = some a0 ∧ w.cell? ⟨g, 1, none⟩ = some a1 ∧ w.cell? ⟨g, 2, none⟩ = some a2 ∧ w.cell? ⟨g, 3, none⟩ = some a3 ∧ w.cell? ⟨g, 4, none⟩ = some a4 ∧ w.cell? ⟨g, 5, none⟩ = some a5 ∧ w.cell? ⟨g, 6, none⟩ = some a6 ∧ w.cell? ⟨g, 7, none⟩ = some a7) ∧ g < w.heap.size :=
  ⟨⟨h.cell 0, h.cell 1, h.cell 2, h.cell 3, h.cell 4, h.cell 5, h.cell 6, h.cell 7⟩, h.lt⟩

set_option maxHeartbeats 400000 in
theorem oneIf_any (b : Bool) (w : World) : Calls Try.prog 121 #[.bool b] w fun e w' => e = .returned (.int .i64 (if b then 1 else 0)) ∧ w = w' := by
  cases b
  all_goals (go_enter Try.func121, Try.ntmps121; go_wp2_with fail; go_ret; exact ⟨rfl, rfl⟩)
set_option maxHeartbeats 400000 in
theorem workersOk_any (n : Int) (w : World) : Calls Try.prog 61 #[.int .i64 n] w fun e w' => e = .returned (.bool (workB n)) ∧ w = w' := by
  by_cases h1 : 1 ≤ n
  · by_cases h2 : n ≤ 4
    · have hE := hide (show workB n = true from by unfold workB; rw [decide_eq_true h1, decide_eq_true h2]; rfl)
      go_enter Try.func61, Try.ntmps61
      go_wp2_with fail
      go_ret
      exact ⟨ret_bool hE.out.symm, rfl⟩
    · have hE := hide (show workB n = false from by unfold workB; rw [decide_eq_false h2, Bool.and_false])
      have h3 : decide (n ≤ 4) = false := decide_eq_false h2
      go_enter Try.func61, Try.ntmps61
      go_wp2_with fail
      go_ret
      exact ⟨ret_bool hE.out.symm, rfl⟩
  · have hE := hide (show workB n = false from by unfold workB; rw [decide_eq_false h1, Bool.false_and])
    have h3 : decide (1 ≤ n) = false := decide_eq_false h1
    go_enter Try.func61, Try.ntmps61
    go_wp2_with fail
    go_ret
    exact ⟨ret_bool hE.out.symm, rfl⟩
end Go.Proofs.Ytfnphnjadknoaaa
