/- laws.toState: a copy of a state whose pieces lie apart. -/
import Derived.Test.YtfkaacfeikmabaaMg12
import Derived.Test.YtfkaacfeikmabaaMg15
namespace Go.Proofs.Ytfkaacfeikmabaa
open Go.RowKit

theorem inn_set (w : World) (p : Addr) (u : Value) : Inn p.block (p.block + 1) w (w.setCell p u) :=
  ⟨rfl, rfl, rfl, by simp [World.setCell], fun k _ hn => Below.heap_setCell _ _ _ _ (by omega)⟩
/-- The boxes of toState: what it was given, its result, its variable. -/
structure TsAt (w0 : World) (st cs : Array Value) (w : World) : Prop where
  box : Blk w w0.heap.size 58 st
  res : Blk w (w0.heap.size + 1) 48 #[.int .i64 0, .slice none 0 0, .slice none 0 0, .slice none 0 0, .slice none 0 0, .slice none 0 0, .slice none 0 0, .slice none 0 0, .int .i64 0]
  out : Blk w (w0.heap.size + 1 + 1) 48 cs
  below : Below w0.heap.size w0 w
section
variable {w0 w w' : World} {st cs : Array Value} {g i : Nat} {u : Value}
theorem TsAt.next (h : TsAt w0 st cs w) (hb : Below w.heap.size w w') : TsAt w0 st cs w' := ⟨h.box.below hb h.box.lt, h.res.below hb h.res.lt, h.out.below hb h.out.lt, below_then h.below hb⟩
theorem TsAt.set (h : TsAt w0 st cs w) (i : Nat) (u : Value) : TsAt w0 st (cs.setIfInBounds i u) (w.setCell ⟨w0.heap.size + 1 + 1, i, none⟩ u) :=
  ⟨h.box.far (by show w0.heap.size ≠ w0.heap.size + 1 + 1; omega) _, h.res.far (by show w0.heap.size + 1 ≠ w0.heap.size + 1 + 1; omega) _, h.out.set_ i u, h.below.setCell (by show w0.heap.size ≤ w0.heap.size + 1 + 1; omega) _⟩
theorem TsAt.cells (h : TsAt w0 st cs w) (i : Nat) : w.cell? ⟨w0.heap.size, i, none⟩ = st[i]? ∧ w.cell? ⟨w0.heap.size + 1 + 1, i, none⟩ = cs[i]? ∧ w.frozen? ⟨w0.heap.size + 1 + 1, i, none⟩ = false := ⟨h.box.cell i, h.out.cell i, h.out.frozen i⟩
theorem TsAt.lt (h : TsAt w0 st cs w) : w0.heap.size + 1 + 1 + 1 ≤ w.heap.size := h.out.lt
theorem TsAt.setLe (h : TsAt w0 st cs w) (p : Addr) (u : Value) : w0.heap.size + 1 + 1 + 1 ≤ (w.setCell p u).heap.size ∧ (w.setCell p u).heap.size = w.heap.size := ⟨by simp only [World.setCell] at *; first | exact h.lt | (simp; exact h.lt), by simp [World.setCell]⟩

theorem RowD.ok.pass {r : RowD} (h : r.ok w) (hl : g + 1 + 1 + 1 ≤ r.lo) (hb : Below (w.setCell ⟨g + 1 + 1, i, none⟩ u).heap.size (w.setCell ⟨g + 1 + 1, i, none⟩ u) w') : r.ok w' :=
  have hi : Inn 0 0 (w.setCell ⟨g + 1 + 1, i, none⟩ u) w' := Inn.of_below hb
  (h.inn (inn_set w _ u) (.inl (by show g + 1 + 1 + 1 ≤ r.lo; exact hl))).inn hi (.inl (Nat.zero_le _))
theorem RowsP.okF.pass {r : RowsP} (h : r.okF w) (hl : g + 1 + 1 + 1 ≤ r.lo) (hb : Below (w.setCell ⟨g + 1 + 1, i, none⟩ u).heap.size (w.setCell ⟨g + 1 + 1, i, none⟩ u) w') : r.okF w' :=
  have hi : Inn 0 0 (w.setCell ⟨g + 1 + 1, i, none⟩ u) w' := Inn.of_below hb
  (h.inn (inn_set w _ u) (.inl (by show g + 1 + 1 + 1 ≤ r.lo; exact hl))).inn hi (.inl (Nat.zero_le _))
theorem RowsP.okB.pass {r : RowsP} (h : r.okB w) (hl : g + 1 + 1 + 1 ≤ r.lo) (hb : Below (w.setCell ⟨g + 1 + 1, i, none⟩ u).heap.size (w.setCell ⟨g + 1 + 1, i, none⟩ u) w') : r.okB w' :=
  have hi : Inn 0 0 (w.setCell ⟨g + 1 + 1, i, none⟩ u) w' := Inn.of_below hb
  (h.inn (inn_set w _ u) (.inl (by show g + 1 + 1 + 1 ≤ r.lo; exact hl))).inn hi (.inl (Nat.zero_le _))
theorem HistP.ok.pass {r : HistP} (h : r.ok w) (hl : g + 1 + 1 + 1 ≤ r.lo) (hb : Below (w.setCell ⟨g + 1 + 1, i, none⟩ u).heap.size (w.setCell ⟨g + 1 + 1, i, none⟩ u) w') : r.ok w' :=
  have hi : Inn 0 0 (w.setCell ⟨g + 1 + 1, i, none⟩ u) w' := Inn.of_below hb
  (h.inn (inn_set w _ u) (.inl (by show g + 1 + 1 + 1 ≤ r.lo; exact hl))).inn hi (.inl (Nat.zero_le _))
theorem StIn.far {s : StD} {B : Nat} (h : StIn w s) (hl : ∀ i, i < 7 → B ≤ (s.iv i).1) (hk : ∀ k, B ≤ k → w'.heap[k]? = w.heap[k]?) (hs : w.heap.size ≤ w'.heap.size) : StIn w' s :=
  ⟨⟨h.pc.1.keep (fun b b1 _ _ => hk b (Nat.le_trans (hl 0 (by omega)) b1)), h.pc.2⟩, ⟨h.F.1.keep (fun b b1 _ _ => hk b (Nat.le_trans (hl 1 (by omega)) b1)), h.F.2⟩, ⟨h.mem.1.keep (fun b b1 _ _ => hk b (Nat.le_trans (hl 2 (by omega)) b1)), h.mem.2⟩, ⟨h.bufs.1.keep (fun b b1 _ _ => hk b (Nat.le_trans (hl 3 (by omega)) b1)), h.bufs.2⟩, ⟨h.H.1.keep (fun b b1 _ _ => hk b (Nat.le_trans (hl 4 (by omega)) b1)), h.H.2⟩, ⟨h.view.1.keep (fun b b1 _ _ => hk b (Nat.le_trans (hl 5 (by omega)) b1)), h.view.2⟩, ⟨h.sc.1.keep (fun b b1 _ _ => hk b (Nat.le_trans (hl 6 (by omega)) b1)), h.sc.2⟩, h.apart, fun i hi => Nat.le_trans (h.bnd i hi) hs⟩
end

set_option maxRecDepth 100000 in
set_option maxHeartbeats 6400000 in
theorem toState_to (A1 A2 A3 A4 A5 A6 A7 : Option Addr) (c1 c2 c3 c4 c5 c6 c7 n1 n3 n7 : Nat) (z1 z3 z7 : List Int) (l2 l4 l6 : List RowD) (hs : List (List PostD)) (kd nx : Int) (w : World)
    (e1 : z1.length = n1 ∧ n1 ≤ 1048576) (e3 : z3.length = n3 ∧ n3 ≤ 1048576) (e7 : z7.length = n7 ∧ n7 ≤ 1048576)
    (e2 : ∀ k, k < l2.length → (getr l2 k).zs.length = (getr l2 k).n ∧ (getr l2 k).n ≤ 1048576) (e4 : ∀ k, k < l4.length → (getr l4 k).zs.length = (getr l4 k).n * 2 ∧ (getr l4 k).n ≤ 1048576) (e6 : ∀ k, k < l6.length → (getr l6 k).zs.length = (getr l6 k).n ∧ (getr l6 k).n ≤ 1048576) (e5 : histSize hs ≤ 1048576)
    (h1 : IntsAt w (Old w.heap.size) A1 z1) (h2 : RowsAt w (Old w.heap.size) A2 l2) (h3 : IntsAt w (Old w.heap.size) A3 z3) (h4 : RowsAt w (Old w.heap.size) A4 l4) (h5 : HistsAt w (Old w.heap.size) A5 hs) (h6 : RowsAt w (Old w.heap.size) A6 l6) (h7 : IntsAt w (Old w.heap.size) A7 z7) :
    Calls Try.prog 34 #[.agg #[.int .i64 kd, .slice A1 n1 c1, .slice A2 l2.length c2, .slice A3 n3 c3, .slice A4 l4.length c4, .slice A5 hs.length c5, .slice A6 l6.length c6, .slice A7 n7 c7, .int .i64 nx]] w fun e w' => ∃ d : StD, e = .returned (.agg d.cells) ∧ StIn w' d ∧ (∀ i, i < 7 → w.heap.size ≤ (d.iv i).1) ∧ ((d.kind = kd ∧ d.next = nx) ∧ (d.pc.n = n1 ∧ d.pc.zs = z1) ∧ SameRows l2 d.F.rs ∧ (d.mem.n = n3 ∧ d.mem.zs = z3) ∧ SameRows l4 d.bufs.rs ∧ d.H.hs = hs ∧ SameRows l6 d.view.rs ∧ (d.sc.n = n7 ∧ d.sc.zs = z7)) ∧ Below w.heap.size w w' := by
  have T1 : Hid (TsAt w #[.int .i64 kd, .slice A1 n1 c1, .slice A2 l2.length c2, .slice A3 n3 c3, .slice A4 l4.length c4, .slice A5 hs.length c5, .slice A6 l6.length c6, .slice A7 n7 c7, .int .i64 nx] #[.int .i64 kd, .slice none 0 0, .slice none 0 0, .slice none 0 0, .slice none 0 0, .slice none 0 0, .slice none 0 0, .slice none 0 0, .int .i64 0] (((w.alloc (Obj.cells #[.int .i64 kd, .slice A1 n1 c1, .slice A2 l2.length c2, .slice A3 n3 c3, .slice A4 l4.length c4, .slice A5 hs.length c5, .slice A6 l6.length c6, .slice A7 n7 c7, .int .i64 nx] 58)).alloc (Obj.cells #[.int .i64 0, .slice none 0 0, .slice none 0 0, .slice none 0 0, .slice none 0 0, .slice none 0 0, .slice none 0 0, .slice none 0 0, .int .i64 0] 48)).alloc (Obj.cells #[.int .i64 kd, .slice none 0 0, .slice none 0 0, .slice none 0 0, .slice none 0 0, .slice none 0 0, .slice none 0 0, .slice none 0 0, .int .i64 0] 48))) := hide ⟨((Blk.new w 58 #[.int .i64 kd, .slice A1 n1 c1, .slice A2 l2.length c2, .slice A3 n3 c3, .slice A4 l4.length c4, .slice A5 hs.length c5, .slice A6 l6.length c6, .slice A7 n7 c7, .int .i64 nx]).alloc _).alloc _, by
    have h := (Blk.new (w.alloc (Obj.cells #[.int .i64 kd, .slice A1 n1 c1, .slice A2 l2.length c2, .slice A3 n3 c3, .slice A4 l4.length c4, .slice A5 hs.length c5, .slice A6 l6.length c6, .slice A7 n7 c7, .int .i64 nx] 58)) 48 #[.int .i64 0, .slice none 0 0, .slice none 0 0, .slice none 0 0, .slice none 0 0, .slice none 0 0, .slice none 0 0, .slice none 0 0, .int .i64 0]).alloc (Obj.cells #[.int .i64 kd, .slice none 0 0, .slice none 0 0, .slice none 0 0, .slice none 0 0, .slice none 0 0, .slice none 0 0, .slice none 0 0, .int .i64 0] 48)
    rwa [World.size_alloc] at h, by
    have h := Blk.new ((w.alloc (Obj.cells #[.int .i64 kd, .slice A1 n1 c1, .slice A2 l2.length c2, .slice A3 n3 c3, .slice A4 l4.length c4, .slice A5 hs.length c5, .slice A6 l6.length c6, .slice A7 n7 c7, .int .i64 nx] 58)).alloc (Obj.cells #[.int .i64 0, .slice none 0 0, .slice none 0 0, .slice none 0 0, .slice none 0 0, .slice none 0 0, .slice none 0 0, .slice none 0 0, .int .i64 0] 48)) 48 #[.int .i64 kd, .slice none 0 0, .slice none 0 0, .slice none 0 0, .slice none 0 0, .slice none 0 0, .slice none 0 0, .slice none 0 0, .int .i64 0]
    rwa [World.size_alloc, World.size_alloc] at h, (below2 _ _ _).alloc (by simp; omega) _⟩
  have L1 := hide T1.out.lt
  have E1 := hide e1
  have H1 := hide h1
  clear e1 h1
  have E2 := hide e2
  have H2 := hide h2
  clear e2 h2
  have E3 := hide e3
  have H3 := hide h3
  clear e3 h3
  have E4 := hide e4
  have H4 := hide h4
  clear e4 h4
  have E5 := hide e5
  have H5 := hide h5
  clear e5 h5
  have E6 := hide e6
  have H6 := hide h6
  clear e6 h6
  have E7 := hide e7
  have H7 := hide h7
  clear e7 h7
  go_enter Try.func34, Try.ntmps34
  go_wp2_with fail
  refine (toIntSI (c := c1) E1.out.1 E1.out.2 (fun b h => Nat.lt_of_lt_of_le h T1.out.below.size) (H1.out.below T1.out.below (fun _ h => h))).mono ?_
  rintro e w2 ⟨q1, rfl, hr, hb⟩
  have U1 := hide (T1.out.next hb)
  have T2 : Hid (TsAt w #[.int .i64 kd, .slice A1 n1 c1, .slice A2 l2.length c2, .slice A3 n3 c3, .slice A4 l4.length c4, .slice A5 hs.length c5, .slice A6 l6.length c6, .slice A7 n7 c7, .int .i64 nx] #[.int .i64 kd, .slice (some ⟨q1, 0, none⟩) n1 n1, .slice none 0 0, .slice none 0 0, .slice none 0 0, .slice none 0 0, .slice none 0 0, .slice none 0 0, .int .i64 0] (w2.setCell ⟨w.heap.size + 1 + 1, 1, none⟩ (.slice (some ⟨q1, 0, none⟩) n1 n1))) := hide (U1.out.set 1 (.slice (some ⟨q1, 0, none⟩) n1 n1))
  have L2 : Hid (w.heap.size + 1 + 1 + 1 ≤ (w2.setCell ⟨w.heap.size + 1 + 1, 1, none⟩ (.slice (some ⟨q1, 0, none⟩) n1 n1)).heap.size) := hide T2.out.lt
  have G1 : Hid ((((w.alloc (Obj.cells #[.int .i64 kd, .slice A1 n1 c1, .slice A2 l2.length c2, .slice A3 n3 c3, .slice A4 l4.length c4, .slice A5 hs.length c5, .slice A6 l6.length c6, .slice A7 n7 c7, .int .i64 nx] 58)).alloc (Obj.cells #[.int .i64 0, .slice none 0 0, .slice none 0 0, .slice none 0 0, .slice none 0 0, .slice none 0 0, .slice none 0 0, .slice none 0 0, .int .i64 0] 48)).alloc (Obj.cells #[.int .i64 kd, .slice none 0 0, .slice none 0 0, .slice none 0 0, .slice none 0 0, .slice none 0 0, .slice none 0 0, .slice none 0 0, .int .i64 0] 48)).heap.size ≤ w2.heap.size) := hide hb.size
  have P1_1 : Hid (RowD.ok w2 ⟨(((w.alloc (Obj.cells #[.int .i64 kd, .slice A1 n1 c1, .slice A2 l2.length c2, .slice A3 n3 c3, .slice A4 l4.length c4, .slice A5 hs.length c5, .slice A6 l6.length c6, .slice A7 n7 c7, .int .i64 nx] 58)).alloc (Obj.cells #[.int .i64 0, .slice none 0 0, .slice none 0 0, .slice none 0 0, .slice none 0 0, .slice none 0 0, .slice none 0 0, .slice none 0 0, .int .i64 0] 48)).alloc (Obj.cells #[.int .i64 kd, .slice none 0 0, .slice none 0 0, .slice none 0 0, .slice none 0 0, .slice none 0 0, .slice none 0 0, .slice none 0 0, .int .i64 0] 48)).heap.size, w2.heap.size, some ⟨q1, 0, none⟩, n1, n1, z1⟩) := hide ⟨hr, E1.out⟩
  have b1 := (U1.out.cells 2).1
  have b2 := (U1.out.cells 1).2.1
  have b3 := (U1.out.cells 1).2.2
  simp only [List.getElem?_toArray, List.getElem?_cons_zero, List.getElem?_cons_succ] at b1 b2
  have b4 := U1.out.lt
  clear hr hb
  go_wp2_with fail
  clear b1 b2 b3 b4
  refine (toFileS_own A2 l2 c2 _ _ E2.out (fun b h => Nat.lt_of_lt_of_le h T2.out.below.size) (H2.out.below T2.out.below (fun _ h => h))).mono ?_
  rintro e w3 ⟨q2, r2, rfl, ⟨hr, hm⟩, hb⟩
  have U2 := hide (T2.out.next hb)
  have T3 : Hid (TsAt w #[.int .i64 kd, .slice A1 n1 c1, .slice A2 l2.length c2, .slice A3 n3 c3, .slice A4 l4.length c4, .slice A5 hs.length c5, .slice A6 l6.length c6, .slice A7 n7 c7, .int .i64 nx] #[.int .i64 kd, .slice (some ⟨q1, 0, none⟩) n1 n1, .slice (some ⟨q2, 0, none⟩) l2.length l2.length, .slice none 0 0, .slice none 0 0, .slice none 0 0, .slice none 0 0, .slice none 0 0, .int .i64 0] (w3.setCell ⟨w.heap.size + 1 + 1, 2, none⟩ (.slice (some ⟨q2, 0, none⟩) l2.length l2.length))) := hide (U2.out.set 2 (.slice (some ⟨q2, 0, none⟩) l2.length l2.length))
  have L3 : Hid (w.heap.size + 1 + 1 + 1 ≤ (w3.setCell ⟨w.heap.size + 1 + 1, 2, none⟩ (.slice (some ⟨q2, 0, none⟩) l2.length l2.length)).heap.size) := hide T3.out.lt
  have G2 : Hid ((w2.setCell ⟨w.heap.size + 1 + 1, 1, none⟩ (.slice (some ⟨q1, 0, none⟩) n1 n1)).heap.size ≤ w3.heap.size) := hide hb.size
  have S2 := hide hm
  have P2_2 : Hid (RowsP.okF w3 ⟨(w2.setCell ⟨w.heap.size + 1 + 1, 1, none⟩ (.slice (some ⟨q1, 0, none⟩) n1 n1)).heap.size, w3.heap.size, some ⟨q2, 0, none⟩, l2.length, l2.length, r2⟩) := hide ⟨.inr ⟨q2, rfl, hr⟩, hm.1.symm, H2.out.1, fun k hk => by
    have hk' : k < l2.length := by rw [hm.1]; exact hk
    have := E2.out k hk'
    rw [(hm.2 k hk').1, (hm.2 k hk').2] at this
    exact this⟩
  clear hm
  have P1_2 := hide (P1_1.out.pass L1.out hb)
  clear P1_1
  have b1 := (U2.out.cells 3).1
  have b2 := (U2.out.cells 2).2.1
  have b3 := (U2.out.cells 2).2.2
  simp only [List.getElem?_toArray, List.getElem?_cons_zero, List.getElem?_cons_succ] at b1 b2
  have b4 := U2.out.lt
  clear hr hb
  go_wp2_with fail
  clear b1 b2 b3 b4
  refine (toIntSI (c := c3) E3.out.1 E3.out.2 (fun b h => Nat.lt_of_lt_of_le h T3.out.below.size) (H3.out.below T3.out.below (fun _ h => h))).mono ?_
  rintro e w4 ⟨q3, rfl, hr, hb⟩
  have U3 := hide (T3.out.next hb)
  have T4 : Hid (TsAt w #[.int .i64 kd, .slice A1 n1 c1, .slice A2 l2.length c2, .slice A3 n3 c3, .slice A4 l4.length c4, .slice A5 hs.length c5, .slice A6 l6.length c6, .slice A7 n7 c7, .int .i64 nx] #[.int .i64 kd, .slice (some ⟨q1, 0, none⟩) n1 n1, .slice (some ⟨q2, 0, none⟩) l2.length l2.length, .slice (some ⟨q3, 0, none⟩) n3 n3, .slice none 0 0, .slice none 0 0, .slice none 0 0, .slice none 0 0, .int .i64 0] (w4.setCell ⟨w.heap.size + 1 + 1, 3, none⟩ (.slice (some ⟨q3, 0, none⟩) n3 n3))) := hide (U3.out.set 3 (.slice (some ⟨q3, 0, none⟩) n3 n3))
  have L4 : Hid (w.heap.size + 1 + 1 + 1 ≤ (w4.setCell ⟨w.heap.size + 1 + 1, 3, none⟩ (.slice (some ⟨q3, 0, none⟩) n3 n3)).heap.size) := hide T4.out.lt
  have G3 : Hid ((w3.setCell ⟨w.heap.size + 1 + 1, 2, none⟩ (.slice (some ⟨q2, 0, none⟩) l2.length l2.length)).heap.size ≤ w4.heap.size) := hide hb.size
  have P3_3 : Hid (RowD.ok w4 ⟨(w3.setCell ⟨w.heap.size + 1 + 1, 2, none⟩ (.slice (some ⟨q2, 0, none⟩) l2.length l2.length)).heap.size, w4.heap.size, some ⟨q3, 0, none⟩, n3, n3, z3⟩) := hide ⟨hr, E3.out⟩
  have P1_3 := hide (P1_2.out.pass L1.out hb)
  have P2_3 := hide (P2_2.out.pass L2.out hb)
  clear P1_2 P2_2
  have b1 := (U3.out.cells 4).1
  have b2 := (U3.out.cells 3).2.1
  have b3 := (U3.out.cells 3).2.2
  simp only [List.getElem?_toArray, List.getElem?_cons_zero, List.getElem?_cons_succ] at b1 b2
  have b4 := U3.out.lt
  clear hr hb
  go_wp2_with fail
  clear b1 b2 b3 b4
  refine (toBufS_own A4 l4 c4 _ _ E4.out (fun b h => Nat.lt_of_lt_of_le h T4.out.below.size) (H4.out.below T4.out.below (fun _ h => h))).mono ?_
  rintro e w5 ⟨q4, r4, rfl, ⟨hr, hm⟩, hb⟩
  have U4 := hide (T4.out.next hb)
  have T5 : Hid (TsAt w #[.int .i64 kd, .slice A1 n1 c1, .slice A2 l2.length c2, .slice A3 n3 c3, .slice A4 l4.length c4, .slice A5 hs.length c5, .slice A6 l6.length c6, .slice A7 n7 c7, .int .i64 nx] #[.int .i64 kd, .slice (some ⟨q1, 0, none⟩) n1 n1, .slice (some ⟨q2, 0, none⟩) l2.length l2.length, .slice (some ⟨q3, 0, none⟩) n3 n3, .slice (some ⟨q4, 0, none⟩) l4.length l4.length, .slice none 0 0, .slice none 0 0, .slice none 0 0, .int .i64 0] (w5.setCell ⟨w.heap.size + 1 + 1, 4, none⟩ (.slice (some ⟨q4, 0, none⟩) l4.length l4.length))) := hide (U4.out.set 4 (.slice (some ⟨q4, 0, none⟩) l4.length l4.length))
  have L5 : Hid (w.heap.size + 1 + 1 + 1 ≤ (w5.setCell ⟨w.heap.size + 1 + 1, 4, none⟩ (.slice (some ⟨q4, 0, none⟩) l4.length l4.length)).heap.size) := hide T5.out.lt
  have G4 : Hid ((w4.setCell ⟨w.heap.size + 1 + 1, 3, none⟩ (.slice (some ⟨q3, 0, none⟩) n3 n3)).heap.size ≤ w5.heap.size) := hide hb.size
  have S4 := hide hm
  have P4_4 : Hid (RowsP.okB w5 ⟨(w4.setCell ⟨w.heap.size + 1 + 1, 3, none⟩ (.slice (some ⟨q3, 0, none⟩) n3 n3)).heap.size, w5.heap.size, some ⟨q4, 0, none⟩, l4.length, l4.length, r4⟩) := hide ⟨.inr ⟨q4, rfl, hr⟩, hm.1.symm, H4.out.1, fun k hk => by
    have hk' : k < l4.length := by rw [hm.1]; exact hk
    have := E4.out k hk'
    rw [(hm.2 k hk').1, (hm.2 k hk').2] at this
    exact this⟩
  clear hm
  have P1_4 := hide (P1_3.out.pass L1.out hb)
  have P2_4 := hide (P2_3.out.pass L2.out hb)
  have P3_4 := hide (P3_3.out.pass L3.out hb)
  clear P1_3 P2_3 P3_3
  have b1 := (U4.out.cells 5).1
  have b2 := (U4.out.cells 4).2.1
  have b3 := (U4.out.cells 4).2.2
  simp only [List.getElem?_toArray, List.getElem?_cons_zero, List.getElem?_cons_succ] at b1 b2
  have b4 := U4.out.lt
  clear hr hb
  go_wp2_with fail
  clear b1 b2 b3 b4
  refine (toHistS_own A5 hs c5 _ _ E5.out (fun b h => Nat.lt_of_lt_of_le h T5.out.below.size) (H5.out.below T5.out.below (fun _ h => h))).mono ?_
  rintro e w6 ⟨q5, los, his, pq, qs, rfl, hr, hb⟩
  have U5 := hide (T5.out.next hb)
  have T6 : Hid (TsAt w #[.int .i64 kd, .slice A1 n1 c1, .slice A2 l2.length c2, .slice A3 n3 c3, .slice A4 l4.length c4, .slice A5 hs.length c5, .slice A6 l6.length c6, .slice A7 n7 c7, .int .i64 nx] #[.int .i64 kd, .slice (some ⟨q1, 0, none⟩) n1 n1, .slice (some ⟨q2, 0, none⟩) l2.length l2.length, .slice (some ⟨q3, 0, none⟩) n3 n3, .slice (some ⟨q4, 0, none⟩) l4.length l4.length, .slice (some ⟨q5, 0, none⟩) hs.length hs.length, .slice none 0 0, .slice none 0 0, .int .i64 0] (w6.setCell ⟨w.heap.size + 1 + 1, 5, none⟩ (.slice (some ⟨q5, 0, none⟩) hs.length hs.length))) := hide (U5.out.set 5 (.slice (some ⟨q5, 0, none⟩) hs.length hs.length))
  have L6 : Hid (w.heap.size + 1 + 1 + 1 ≤ (w6.setCell ⟨w.heap.size + 1 + 1, 5, none⟩ (.slice (some ⟨q5, 0, none⟩) hs.length hs.length)).heap.size) := hide T6.out.lt
  have G5 : Hid ((w5.setCell ⟨w.heap.size + 1 + 1, 4, none⟩ (.slice (some ⟨q4, 0, none⟩) l4.length l4.length)).heap.size ≤ w6.heap.size) := hide hb.size
  have P5_5 : Hid (HistP.ok w6 ⟨(w5.setCell ⟨w.heap.size + 1 + 1, 4, none⟩ (.slice (some ⟨q4, 0, none⟩) l4.length l4.length)).heap.size, w6.heap.size, some ⟨q5, 0, none⟩, hs.length, hs.length, hs, los, his, pq, qs⟩) := hide ⟨.inr ⟨q5, rfl, hr⟩, rfl, E5.out⟩
  have P1_5 := hide (P1_4.out.pass L1.out hb)
  have P2_5 := hide (P2_4.out.pass L2.out hb)
  have P3_5 := hide (P3_4.out.pass L3.out hb)
  have P4_5 := hide (P4_4.out.pass L4.out hb)
  clear P1_4 P2_4 P3_4 P4_4
  have b1 := (U5.out.cells 6).1
  have b2 := (U5.out.cells 5).2.1
  have b3 := (U5.out.cells 5).2.2
  simp only [List.getElem?_toArray, List.getElem?_cons_zero, List.getElem?_cons_succ] at b1 b2
  have b4 := U5.out.lt
  clear hr hb
  go_wp2_with fail
  clear b1 b2 b3 b4
  refine (toFileS_own A6 l6 c6 _ _ E6.out (fun b h => Nat.lt_of_lt_of_le h T6.out.below.size) (H6.out.below T6.out.below (fun _ h => h))).mono ?_
  rintro e w7 ⟨q6, r6, rfl, ⟨hr, hm⟩, hb⟩
  have U6 := hide (T6.out.next hb)
  have T7 : Hid (TsAt w #[.int .i64 kd, .slice A1 n1 c1, .slice A2 l2.length c2, .slice A3 n3 c3, .slice A4 l4.length c4, .slice A5 hs.length c5, .slice A6 l6.length c6, .slice A7 n7 c7, .int .i64 nx] #[.int .i64 kd, .slice (some ⟨q1, 0, none⟩) n1 n1, .slice (some ⟨q2, 0, none⟩) l2.length l2.length, .slice (some ⟨q3, 0, none⟩) n3 n3, .slice (some ⟨q4, 0, none⟩) l4.length l4.length, .slice (some ⟨q5, 0, none⟩) hs.length hs.length, .slice (some ⟨q6, 0, none⟩) l6.length l6.length, .slice none 0 0, .int .i64 0] (w7.setCell ⟨w.heap.size + 1 + 1, 6, none⟩ (.slice (some ⟨q6, 0, none⟩) l6.length l6.length))) := hide (U6.out.set 6 (.slice (some ⟨q6, 0, none⟩) l6.length l6.length))
  have L7 : Hid (w.heap.size + 1 + 1 + 1 ≤ (w7.setCell ⟨w.heap.size + 1 + 1, 6, none⟩ (.slice (some ⟨q6, 0, none⟩) l6.length l6.length)).heap.size) := hide T7.out.lt
  have G6 : Hid ((w6.setCell ⟨w.heap.size + 1 + 1, 5, none⟩ (.slice (some ⟨q5, 0, none⟩) hs.length hs.length)).heap.size ≤ w7.heap.size) := hide hb.size
  have S6 := hide hm
  have P6_6 : Hid (RowsP.okF w7 ⟨(w6.setCell ⟨w.heap.size + 1 + 1, 5, none⟩ (.slice (some ⟨q5, 0, none⟩) hs.length hs.length)).heap.size, w7.heap.size, some ⟨q6, 0, none⟩, l6.length, l6.length, r6⟩) := hide ⟨.inr ⟨q6, rfl, hr⟩, hm.1.symm, H6.out.1, fun k hk => by
    have hk' : k < l6.length := by rw [hm.1]; exact hk
    have := E6.out k hk'
    rw [(hm.2 k hk').1, (hm.2 k hk').2] at this
    exact this⟩
  clear hm
  have P1_6 := hide (P1_5.out.pass L1.out hb)
  have P2_6 := hide (P2_5.out.pass L2.out hb)
  have P3_6 := hide (P3_5.out.pass L3.out hb)
  have P4_6 := hide (P4_5.out.pass L4.out hb)
  have P5_6 := hide (P5_5.out.pass L5.out hb)
  clear P1_5 P2_5 P3_5 P4_5 P5_5
  have b1 := (U6.out.cells 7).1
  have b2 := (U6.out.cells 6).2.1
  have b3 := (U6.out.cells 6).2.2
  simp only [List.getElem?_toArray, List.getElem?_cons_zero, List.getElem?_cons_succ] at b1 b2
  have b4 := U6.out.lt
  clear hr hb
  go_wp2_with fail
  clear b1 b2 b3 b4
  refine (toIntSI (c := c7) E7.out.1 E7.out.2 (fun b h => Nat.lt_of_lt_of_le h T7.out.below.size) (H7.out.below T7.out.below (fun _ h => h))).mono ?_
  rintro e w8 ⟨q7, rfl, hr, hb⟩
  have U7 := hide (T7.out.next hb)
  have T8 : Hid (TsAt w #[.int .i64 kd, .slice A1 n1 c1, .slice A2 l2.length c2, .slice A3 n3 c3, .slice A4 l4.length c4, .slice A5 hs.length c5, .slice A6 l6.length c6, .slice A7 n7 c7, .int .i64 nx] #[.int .i64 kd, .slice (some ⟨q1, 0, none⟩) n1 n1, .slice (some ⟨q2, 0, none⟩) l2.length l2.length, .slice (some ⟨q3, 0, none⟩) n3 n3, .slice (some ⟨q4, 0, none⟩) l4.length l4.length, .slice (some ⟨q5, 0, none⟩) hs.length hs.length, .slice (some ⟨q6, 0, none⟩) l6.length l6.length, .slice (some ⟨q7, 0, none⟩) n7 n7, .int .i64 0] (w8.setCell ⟨w.heap.size + 1 + 1, 7, none⟩ (.slice (some ⟨q7, 0, none⟩) n7 n7))) := hide (U7.out.set 7 (.slice (some ⟨q7, 0, none⟩) n7 n7))
  have L8 : Hid (w.heap.size + 1 + 1 + 1 ≤ (w8.setCell ⟨w.heap.size + 1 + 1, 7, none⟩ (.slice (some ⟨q7, 0, none⟩) n7 n7)).heap.size) := hide T8.out.lt
  have G7 : Hid ((w7.setCell ⟨w.heap.size + 1 + 1, 6, none⟩ (.slice (some ⟨q6, 0, none⟩) l6.length l6.length)).heap.size ≤ w8.heap.size) := hide hb.size
  have P7_7 : Hid (RowD.ok w8 ⟨(w7.setCell ⟨w.heap.size + 1 + 1, 6, none⟩ (.slice (some ⟨q6, 0, none⟩) l6.length l6.length)).heap.size, w8.heap.size, some ⟨q7, 0, none⟩, n7, n7, z7⟩) := hide ⟨hr, E7.out⟩
  have P1_7 := hide (P1_6.out.pass L1.out hb)
  have P2_7 := hide (P2_6.out.pass L2.out hb)
  have P3_7 := hide (P3_6.out.pass L3.out hb)
  have P4_7 := hide (P4_6.out.pass L4.out hb)
  have P5_7 := hide (P5_6.out.pass L5.out hb)
  have P6_7 := hide (P6_6.out.pass L6.out hb)
  clear P1_6 P2_6 P3_6 P4_6 P5_6 P6_6
  have a8 := (U7.out.cells 8).1
  have x0 := (U7.out.cells 0).2.1
  have y0 := (U7.out.cells 0).2.2
  have r_0 := U7.out.res.cell 0
  have s_0 := U7.out.res.frozen 0
  have x1 := (U7.out.cells 1).2.1
  have y1 := (U7.out.cells 1).2.2
  have r_1 := U7.out.res.cell 1
  have s_1 := U7.out.res.frozen 1
  have x2 := (U7.out.cells 2).2.1
  have y2 := (U7.out.cells 2).2.2
  have r_2 := U7.out.res.cell 2
  have s_2 := U7.out.res.frozen 2
  have x3 := (U7.out.cells 3).2.1
  have y3 := (U7.out.cells 3).2.2
  have r_3 := U7.out.res.cell 3
  have s_3 := U7.out.res.frozen 3
  have x4 := (U7.out.cells 4).2.1
  have y4 := (U7.out.cells 4).2.2
  have r_4 := U7.out.res.cell 4
  have s_4 := U7.out.res.frozen 4
  have x5 := (U7.out.cells 5).2.1
  have y5 := (U7.out.cells 5).2.2
  have r_5 := U7.out.res.cell 5
  have s_5 := U7.out.res.frozen 5
  have x6 := (U7.out.cells 6).2.1
  have y6 := (U7.out.cells 6).2.2
  have r_6 := U7.out.res.cell 6
  have s_6 := U7.out.res.frozen 6
  have x7 := (U7.out.cells 7).2.1
  have y7 := (U7.out.cells 7).2.2
  have r_7 := U7.out.res.cell 7
  have s_7 := U7.out.res.frozen 7
  have x8 := (U7.out.cells 8).2.1
  have y8 := (U7.out.cells 8).2.2
  have r_8 := U7.out.res.cell 8
  have s_8 := U7.out.res.frozen 8
  simp only [List.getElem?_toArray, List.getElem?_cons_zero, List.getElem?_cons_succ] at a8 x0 r_0 x1 r_1 x2 r_2 x3 r_3 x4 r_4 x5 r_5 x6 r_6 x7 r_7 x8 r_8
  have b4 := U7.out.lt
  clear hr hb
  go_wp2_with fail
  have hR : Blk (((((((((((w8.setCell ⟨w.heap.size + 1 + 1, 7, none⟩ (.slice (some ⟨q7, 0, none⟩) n7 n7)).setCell ⟨w.heap.size + 1 + 1, 8, none⟩ (.int .i64 nx)).setCell ⟨w.heap.size + 1, 0, none⟩ (.int .i64 kd)).setCell ⟨w.heap.size + 1, 1, none⟩ (.slice (some ⟨q1, 0, none⟩) n1 n1)).setCell ⟨w.heap.size + 1, 2, none⟩ (.slice (some ⟨q2, 0, none⟩) l2.length l2.length)).setCell ⟨w.heap.size + 1, 3, none⟩ (.slice (some ⟨q3, 0, none⟩) n3 n3)).setCell ⟨w.heap.size + 1, 4, none⟩ (.slice (some ⟨q4, 0, none⟩) l4.length l4.length)).setCell ⟨w.heap.size + 1, 5, none⟩ (.slice (some ⟨q5, 0, none⟩) hs.length hs.length)).setCell ⟨w.heap.size + 1, 6, none⟩ (.slice (some ⟨q6, 0, none⟩) l6.length l6.length)).setCell ⟨w.heap.size + 1, 7, none⟩ (.slice (some ⟨q7, 0, none⟩) n7 n7)).setCell ⟨w.heap.size + 1, 8, none⟩ (.int .i64 nx)) (w.heap.size + 1) 48 #[.int .i64 kd, .slice (some ⟨q1, 0, none⟩) n1 n1, .slice (some ⟨q2, 0, none⟩) l2.length l2.length, .slice (some ⟨q3, 0, none⟩) n3 n3, .slice (some ⟨q4, 0, none⟩) l4.length l4.length, .slice (some ⟨q5, 0, none⟩) hs.length hs.length, .slice (some ⟨q6, 0, none⟩) l6.length l6.length, .slice (some ⟨q7, 0, none⟩) n7 n7, .int .i64 nx] := (((((((((((U7.out.res.far (by show w.heap.size + 1 ≠ w.heap.size + 1 + 1; omega) (.slice (some ⟨q7, 0, none⟩) n7 n7)).far (by show w.heap.size + 1 ≠ w.heap.size + 1 + 1; omega) (.int .i64 nx)).set_ 0 (.int .i64 kd)).set_ 1 (.slice (some ⟨q1, 0, none⟩) n1 n1)).set_ 2 (.slice (some ⟨q2, 0, none⟩) l2.length l2.length)).set_ 3 (.slice (some ⟨q3, 0, none⟩) n3 n3)).set_ 4 (.slice (some ⟨q4, 0, none⟩) l4.length l4.length)).set_ 5 (.slice (some ⟨q5, 0, none⟩) hs.length hs.length)).set_ 6 (.slice (some ⟨q6, 0, none⟩) l6.length l6.length)).set_ 7 (.slice (some ⟨q7, 0, none⟩) n7 n7)).set_ 8 (.int .i64 nx))
  have q_0 := hR.cell 0
  have q_1 := hR.cell 1
  have q_2 := hR.cell 2
  have q_3 := hR.cell 3
  have q_4 := hR.cell 4
  have q_5 := hR.cell 5
  have q_6 := hR.cell 6
  have q_7 := hR.cell 7
  have q_8 := hR.cell 8
  simp only [List.getElem?_toArray, List.getElem?_cons_zero, List.getElem?_cons_succ] at q_0 q_1 q_2 q_3 q_4 q_5 q_6 q_7 q_8
  have hkeep : Hid (∀ k, w.heap.size + 1 + 1 + 1 ≤ k → (((((((((((w8.setCell ⟨w.heap.size + 1 + 1, 7, none⟩ (.slice (some ⟨q7, 0, none⟩) n7 n7)).setCell ⟨w.heap.size + 1 + 1, 8, none⟩ (.int .i64 nx)).setCell ⟨w.heap.size + 1, 0, none⟩ (.int .i64 kd)).setCell ⟨w.heap.size + 1, 1, none⟩ (.slice (some ⟨q1, 0, none⟩) n1 n1)).setCell ⟨w.heap.size + 1, 2, none⟩ (.slice (some ⟨q2, 0, none⟩) l2.length l2.length)).setCell ⟨w.heap.size + 1, 3, none⟩ (.slice (some ⟨q3, 0, none⟩) n3 n3)).setCell ⟨w.heap.size + 1, 4, none⟩ (.slice (some ⟨q4, 0, none⟩) l4.length l4.length)).setCell ⟨w.heap.size + 1, 5, none⟩ (.slice (some ⟨q5, 0, none⟩) hs.length hs.length)).setCell ⟨w.heap.size + 1, 6, none⟩ (.slice (some ⟨q6, 0, none⟩) l6.length l6.length)).setCell ⟨w.heap.size + 1, 7, none⟩ (.slice (some ⟨q7, 0, none⟩) n7 n7)).setCell ⟨w.heap.size + 1, 8, none⟩ (.int .i64 nx)).heap[k]? = w8.heap[k]?) := hide (fun k hk => by
    iterate 11 (refine (Below.heap_setCell _ _ _ k (by first | (show k ≠ w.heap.size + 1; omega) | (show k ≠ w.heap.size + 1 + 1; omega))).trans ?_)
    rfl)
  have hsz : Hid ((((((((((((w8.setCell ⟨w.heap.size + 1 + 1, 7, none⟩ (.slice (some ⟨q7, 0, none⟩) n7 n7)).setCell ⟨w.heap.size + 1 + 1, 8, none⟩ (.int .i64 nx)).setCell ⟨w.heap.size + 1, 0, none⟩ (.int .i64 kd)).setCell ⟨w.heap.size + 1, 1, none⟩ (.slice (some ⟨q1, 0, none⟩) n1 n1)).setCell ⟨w.heap.size + 1, 2, none⟩ (.slice (some ⟨q2, 0, none⟩) l2.length l2.length)).setCell ⟨w.heap.size + 1, 3, none⟩ (.slice (some ⟨q3, 0, none⟩) n3 n3)).setCell ⟨w.heap.size + 1, 4, none⟩ (.slice (some ⟨q4, 0, none⟩) l4.length l4.length)).setCell ⟨w.heap.size + 1, 5, none⟩ (.slice (some ⟨q5, 0, none⟩) hs.length hs.length)).setCell ⟨w.heap.size + 1, 6, none⟩ (.slice (some ⟨q6, 0, none⟩) l6.length l6.length)).setCell ⟨w.heap.size + 1, 7, none⟩ (.slice (some ⟨q7, 0, none⟩) n7 n7)).setCell ⟨w.heap.size + 1, 8, none⟩ (.int .i64 nx)).heap.size = w8.heap.size) := hide (by simp [World.setCell])
  have hbl : Hid (Below w.heap.size w (((((((((((w8.setCell ⟨w.heap.size + 1 + 1, 7, none⟩ (.slice (some ⟨q7, 0, none⟩) n7 n7)).setCell ⟨w.heap.size + 1 + 1, 8, none⟩ (.int .i64 nx)).setCell ⟨w.heap.size + 1, 0, none⟩ (.int .i64 kd)).setCell ⟨w.heap.size + 1, 1, none⟩ (.slice (some ⟨q1, 0, none⟩) n1 n1)).setCell ⟨w.heap.size + 1, 2, none⟩ (.slice (some ⟨q2, 0, none⟩) l2.length l2.length)).setCell ⟨w.heap.size + 1, 3, none⟩ (.slice (some ⟨q3, 0, none⟩) n3 n3)).setCell ⟨w.heap.size + 1, 4, none⟩ (.slice (some ⟨q4, 0, none⟩) l4.length l4.length)).setCell ⟨w.heap.size + 1, 5, none⟩ (.slice (some ⟨q5, 0, none⟩) hs.length hs.length)).setCell ⟨w.heap.size + 1, 6, none⟩ (.slice (some ⟨q6, 0, none⟩) l6.length l6.length)).setCell ⟨w.heap.size + 1, 7, none⟩ (.slice (some ⟨q7, 0, none⟩) n7 n7)).setCell ⟨w.heap.size + 1, 8, none⟩ (.int .i64 nx))) := hide (by
    iterate 11 (refine Below.setCell ?_ (by first | (show w.heap.size ≤ w.heap.size + 1; omega) | (show w.heap.size ≤ w.heap.size + 1 + 1; omega)) _)
    exact U7.out.below)
  have AL : Hid (∀ i, i < 7 → w.heap.size + 1 + 1 + 1 ≤ (({ kind := kd, pc := ⟨(((w.alloc (Obj.cells #[.int .i64 kd, .slice A1 n1 c1, .slice A2 l2.length c2, .slice A3 n3 c3, .slice A4 l4.length c4, .slice A5 hs.length c5, .slice A6 l6.length c6, .slice A7 n7 c7, .int .i64 nx] 58)).alloc (Obj.cells #[.int .i64 0, .slice none 0 0, .slice none 0 0, .slice none 0 0, .slice none 0 0, .slice none 0 0, .slice none 0 0, .slice none 0 0, .int .i64 0] 48)).alloc (Obj.cells #[.int .i64 kd, .slice none 0 0, .slice none 0 0, .slice none 0 0, .slice none 0 0, .slice none 0 0, .slice none 0 0, .slice none 0 0, .int .i64 0] 48)).heap.size, w2.heap.size, some ⟨q1, 0, none⟩, n1, n1, z1⟩, F := ⟨(w2.setCell ⟨w.heap.size + 1 + 1, 1, none⟩ (.slice (some ⟨q1, 0, none⟩) n1 n1)).heap.size, w3.heap.size, some ⟨q2, 0, none⟩, l2.length, l2.length, r2⟩, mem := ⟨(w3.setCell ⟨w.heap.size + 1 + 1, 2, none⟩ (.slice (some ⟨q2, 0, none⟩) l2.length l2.length)).heap.size, w4.heap.size, some ⟨q3, 0, none⟩, n3, n3, z3⟩, bufs := ⟨(w4.setCell ⟨w.heap.size + 1 + 1, 3, none⟩ (.slice (some ⟨q3, 0, none⟩) n3 n3)).heap.size, w5.heap.size, some ⟨q4, 0, none⟩, l4.length, l4.length, r4⟩, H := ⟨(w5.setCell ⟨w.heap.size + 1 + 1, 4, none⟩ (.slice (some ⟨q4, 0, none⟩) l4.length l4.length)).heap.size, w6.heap.size, some ⟨q5, 0, none⟩, hs.length, hs.length, hs, los, his, pq, qs⟩, view := ⟨(w6.setCell ⟨w.heap.size + 1 + 1, 5, none⟩ (.slice (some ⟨q5, 0, none⟩) hs.length hs.length)).heap.size, w7.heap.size, some ⟨q6, 0, none⟩, l6.length, l6.length, r6⟩, sc := ⟨(w7.setCell ⟨w.heap.size + 1 + 1, 6, none⟩ (.slice (some ⟨q6, 0, none⟩) l6.length l6.length)).heap.size, w8.heap.size, some ⟨q7, 0, none⟩, n7, n7, z7⟩, next := nx } : StD).iv i).1) := hide (by
    intro i hi
    rcases (by omega : i = 0 ∨ i = 1 ∨ i = 2 ∨ i = 3 ∨ i = 4 ∨ i = 5 ∨ i = 6) with rfl | rfl | rfl | rfl | rfl | rfl | rfl
    · exact L1.out
    · exact L2.out
    · exact L3.out
    · exact L4.out
    · exact L5.out
    · exact L6.out
    · exact L7.out)
  have hs2 : Hid ((w2.setCell ⟨w.heap.size + 1 + 1, 1, none⟩ (.slice (some ⟨q1, 0, none⟩) n1 n1)).heap.size = w2.heap.size ∧ (w3.setCell ⟨w.heap.size + 1 + 1, 2, none⟩ (.slice (some ⟨q2, 0, none⟩) l2.length l2.length)).heap.size = w3.heap.size ∧ (w4.setCell ⟨w.heap.size + 1 + 1, 3, none⟩ (.slice (some ⟨q3, 0, none⟩) n3 n3)).heap.size = w4.heap.size ∧ (w5.setCell ⟨w.heap.size + 1 + 1, 4, none⟩ (.slice (some ⟨q4, 0, none⟩) l4.length l4.length)).heap.size = w5.heap.size ∧ (w6.setCell ⟨w.heap.size + 1 + 1, 5, none⟩ (.slice (some ⟨q5, 0, none⟩) hs.length hs.length)).heap.size = w6.heap.size ∧ (w7.setCell ⟨w.heap.size + 1 + 1, 6, none⟩ (.slice (some ⟨q6, 0, none⟩) l6.length l6.length)).heap.size = w7.heap.size) := hide (by refine ⟨?_, ?_, ?_, ?_, ?_, ?_⟩ <;> simp [World.setCell])
  have AP : Hid (∀ i j, i < j → j < 7 → (({ kind := kd, pc := ⟨(((w.alloc (Obj.cells #[.int .i64 kd, .slice A1 n1 c1, .slice A2 l2.length c2, .slice A3 n3 c3, .slice A4 l4.length c4, .slice A5 hs.length c5, .slice A6 l6.length c6, .slice A7 n7 c7, .int .i64 nx] 58)).alloc (Obj.cells #[.int .i64 0, .slice none 0 0, .slice none 0 0, .slice none 0 0, .slice none 0 0, .slice none 0 0, .slice none 0 0, .slice none 0 0, .int .i64 0] 48)).alloc (Obj.cells #[.int .i64 kd, .slice none 0 0, .slice none 0 0, .slice none 0 0, .slice none 0 0, .slice none 0 0, .slice none 0 0, .slice none 0 0, .int .i64 0] 48)).heap.size, w2.heap.size, some ⟨q1, 0, none⟩, n1, n1, z1⟩, F := ⟨(w2.setCell ⟨w.heap.size + 1 + 1, 1, none⟩ (.slice (some ⟨q1, 0, none⟩) n1 n1)).heap.size, w3.heap.size, some ⟨q2, 0, none⟩, l2.length, l2.length, r2⟩, mem := ⟨(w3.setCell ⟨w.heap.size + 1 + 1, 2, none⟩ (.slice (some ⟨q2, 0, none⟩) l2.length l2.length)).heap.size, w4.heap.size, some ⟨q3, 0, none⟩, n3, n3, z3⟩, bufs := ⟨(w4.setCell ⟨w.heap.size + 1 + 1, 3, none⟩ (.slice (some ⟨q3, 0, none⟩) n3 n3)).heap.size, w5.heap.size, some ⟨q4, 0, none⟩, l4.length, l4.length, r4⟩, H := ⟨(w5.setCell ⟨w.heap.size + 1 + 1, 4, none⟩ (.slice (some ⟨q4, 0, none⟩) l4.length l4.length)).heap.size, w6.heap.size, some ⟨q5, 0, none⟩, hs.length, hs.length, hs, los, his, pq, qs⟩, view := ⟨(w6.setCell ⟨w.heap.size + 1 + 1, 5, none⟩ (.slice (some ⟨q5, 0, none⟩) hs.length hs.length)).heap.size, w7.heap.size, some ⟨q6, 0, none⟩, l6.length, l6.length, r6⟩, sc := ⟨(w7.setCell ⟨w.heap.size + 1 + 1, 6, none⟩ (.slice (some ⟨q6, 0, none⟩) l6.length l6.length)).heap.size, w8.heap.size, some ⟨q7, 0, none⟩, n7, n7, z7⟩, next := nx } : StD).iv i).2 ≤ (({ kind := kd, pc := ⟨(((w.alloc (Obj.cells #[.int .i64 kd, .slice A1 n1 c1, .slice A2 l2.length c2, .slice A3 n3 c3, .slice A4 l4.length c4, .slice A5 hs.length c5, .slice A6 l6.length c6, .slice A7 n7 c7, .int .i64 nx] 58)).alloc (Obj.cells #[.int .i64 0, .slice none 0 0, .slice none 0 0, .slice none 0 0, .slice none 0 0, .slice none 0 0, .slice none 0 0, .slice none 0 0, .int .i64 0] 48)).alloc (Obj.cells #[.int .i64 kd, .slice none 0 0, .slice none 0 0, .slice none 0 0, .slice none 0 0, .slice none 0 0, .slice none 0 0, .slice none 0 0, .int .i64 0] 48)).heap.size, w2.heap.size, some ⟨q1, 0, none⟩, n1, n1, z1⟩, F := ⟨(w2.setCell ⟨w.heap.size + 1 + 1, 1, none⟩ (.slice (some ⟨q1, 0, none⟩) n1 n1)).heap.size, w3.heap.size, some ⟨q2, 0, none⟩, l2.length, l2.length, r2⟩, mem := ⟨(w3.setCell ⟨w.heap.size + 1 + 1, 2, none⟩ (.slice (some ⟨q2, 0, none⟩) l2.length l2.length)).heap.size, w4.heap.size, some ⟨q3, 0, none⟩, n3, n3, z3⟩, bufs := ⟨(w4.setCell ⟨w.heap.size + 1 + 1, 3, none⟩ (.slice (some ⟨q3, 0, none⟩) n3 n3)).heap.size, w5.heap.size, some ⟨q4, 0, none⟩, l4.length, l4.length, r4⟩, H := ⟨(w5.setCell ⟨w.heap.size + 1 + 1, 4, none⟩ (.slice (some ⟨q4, 0, none⟩) l4.length l4.length)).heap.size, w6.heap.size, some ⟨q5, 0, none⟩, hs.length, hs.length, hs, los, his, pq, qs⟩, view := ⟨(w6.setCell ⟨w.heap.size + 1 + 1, 5, none⟩ (.slice (some ⟨q5, 0, none⟩) hs.length hs.length)).heap.size, w7.heap.size, some ⟨q6, 0, none⟩, l6.length, l6.length, r6⟩, sc := ⟨(w7.setCell ⟨w.heap.size + 1 + 1, 6, none⟩ (.slice (some ⟨q6, 0, none⟩) l6.length l6.length)).heap.size, w8.heap.size, some ⟨q7, 0, none⟩, n7, n7, z7⟩, next := nx } : StD).iv j).1) := hide (by
    obtain ⟨t1, t2, t3, t4, t5, t6⟩ := hs2.out
    have v1 := G1.out
    have v2 := G2.out
    have v3 := G3.out
    have v4 := G4.out
    have v5 := G5.out
    have v6 := G6.out
    have v7 := G7.out
    intro i j hij hj
    rcases (by omega : i = 0 ∨ i = 1 ∨ i = 2 ∨ i = 3 ∨ i = 4 ∨ i = 5 ∨ i = 6) with rfl | rfl | rfl | rfl | rfl | rfl | rfl <;> rcases (by omega : j = 0 ∨ j = 1 ∨ j = 2 ∨ j = 3 ∨ j = 4 ∨ j = 5 ∨ j = 6) with rfl | rfl | rfl | rfl | rfl | rfl | rfl <;> first | (exfalso; omega) | (simp only [StD.iv, List.getD_cons_zero, List.getD_cons_succ]; omega))
  have AB : Hid (∀ i, i < 7 → (({ kind := kd, pc := ⟨(((w.alloc (Obj.cells #[.int .i64 kd, .slice A1 n1 c1, .slice A2 l2.length c2, .slice A3 n3 c3, .slice A4 l4.length c4, .slice A5 hs.length c5, .slice A6 l6.length c6, .slice A7 n7 c7, .int .i64 nx] 58)).alloc (Obj.cells #[.int .i64 0, .slice none 0 0, .slice none 0 0, .slice none 0 0, .slice none 0 0, .slice none 0 0, .slice none 0 0, .slice none 0 0, .int .i64 0] 48)).alloc (Obj.cells #[.int .i64 kd, .slice none 0 0, .slice none 0 0, .slice none 0 0, .slice none 0 0, .slice none 0 0, .slice none 0 0, .slice none 0 0, .int .i64 0] 48)).heap.size, w2.heap.size, some ⟨q1, 0, none⟩, n1, n1, z1⟩, F := ⟨(w2.setCell ⟨w.heap.size + 1 + 1, 1, none⟩ (.slice (some ⟨q1, 0, none⟩) n1 n1)).heap.size, w3.heap.size, some ⟨q2, 0, none⟩, l2.length, l2.length, r2⟩, mem := ⟨(w3.setCell ⟨w.heap.size + 1 + 1, 2, none⟩ (.slice (some ⟨q2, 0, none⟩) l2.length l2.length)).heap.size, w4.heap.size, some ⟨q3, 0, none⟩, n3, n3, z3⟩, bufs := ⟨(w4.setCell ⟨w.heap.size + 1 + 1, 3, none⟩ (.slice (some ⟨q3, 0, none⟩) n3 n3)).heap.size, w5.heap.size, some ⟨q4, 0, none⟩, l4.length, l4.length, r4⟩, H := ⟨(w5.setCell ⟨w.heap.size + 1 + 1, 4, none⟩ (.slice (some ⟨q4, 0, none⟩) l4.length l4.length)).heap.size, w6.heap.size, some ⟨q5, 0, none⟩, hs.length, hs.length, hs, los, his, pq, qs⟩, view := ⟨(w6.setCell ⟨w.heap.size + 1 + 1, 5, none⟩ (.slice (some ⟨q5, 0, none⟩) hs.length hs.length)).heap.size, w7.heap.size, some ⟨q6, 0, none⟩, l6.length, l6.length, r6⟩, sc := ⟨(w7.setCell ⟨w.heap.size + 1 + 1, 6, none⟩ (.slice (some ⟨q6, 0, none⟩) l6.length l6.length)).heap.size, w8.heap.size, some ⟨q7, 0, none⟩, n7, n7, z7⟩, next := nx } : StD).iv i).2 ≤ w8.heap.size) := hide (by
    obtain ⟨t1, t2, t3, t4, t5, t6⟩ := hs2.out
    have v1 := G1.out
    have v2 := G2.out
    have v3 := G3.out
    have v4 := G4.out
    have v5 := G5.out
    have v6 := G6.out
    have v7 := G7.out
    intro i hi
    rcases (by omega : i = 0 ∨ i = 1 ∨ i = 2 ∨ i = 3 ∨ i = 4 ∨ i = 5 ∨ i = 6) with rfl | rfl | rfl | rfl | rfl | rfl | rfl <;> (simp only [StD.iv, List.getD_cons_zero, List.getD_cons_succ]; omega))
  have SI : Hid (StIn w8 ({ kind := kd, pc := ⟨(((w.alloc (Obj.cells #[.int .i64 kd, .slice A1 n1 c1, .slice A2 l2.length c2, .slice A3 n3 c3, .slice A4 l4.length c4, .slice A5 hs.length c5, .slice A6 l6.length c6, .slice A7 n7 c7, .int .i64 nx] 58)).alloc (Obj.cells #[.int .i64 0, .slice none 0 0, .slice none 0 0, .slice none 0 0, .slice none 0 0, .slice none 0 0, .slice none 0 0, .slice none 0 0, .int .i64 0] 48)).alloc (Obj.cells #[.int .i64 kd, .slice none 0 0, .slice none 0 0, .slice none 0 0, .slice none 0 0, .slice none 0 0, .slice none 0 0, .slice none 0 0, .int .i64 0] 48)).heap.size, w2.heap.size, some ⟨q1, 0, none⟩, n1, n1, z1⟩, F := ⟨(w2.setCell ⟨w.heap.size + 1 + 1, 1, none⟩ (.slice (some ⟨q1, 0, none⟩) n1 n1)).heap.size, w3.heap.size, some ⟨q2, 0, none⟩, l2.length, l2.length, r2⟩, mem := ⟨(w3.setCell ⟨w.heap.size + 1 + 1, 2, none⟩ (.slice (some ⟨q2, 0, none⟩) l2.length l2.length)).heap.size, w4.heap.size, some ⟨q3, 0, none⟩, n3, n3, z3⟩, bufs := ⟨(w4.setCell ⟨w.heap.size + 1 + 1, 3, none⟩ (.slice (some ⟨q3, 0, none⟩) n3 n3)).heap.size, w5.heap.size, some ⟨q4, 0, none⟩, l4.length, l4.length, r4⟩, H := ⟨(w5.setCell ⟨w.heap.size + 1 + 1, 4, none⟩ (.slice (some ⟨q4, 0, none⟩) l4.length l4.length)).heap.size, w6.heap.size, some ⟨q5, 0, none⟩, hs.length, hs.length, hs, los, his, pq, qs⟩, view := ⟨(w6.setCell ⟨w.heap.size + 1 + 1, 5, none⟩ (.slice (some ⟨q5, 0, none⟩) hs.length hs.length)).heap.size, w7.heap.size, some ⟨q6, 0, none⟩, l6.length, l6.length, r6⟩, sc := ⟨(w7.setCell ⟨w.heap.size + 1 + 1, 6, none⟩ (.slice (some ⟨q6, 0, none⟩) l6.length l6.length)).heap.size, w8.heap.size, some ⟨q7, 0, none⟩, n7, n7, z7⟩, next := nx } : StD)) := hide ⟨P1_7.out, P2_7.out, P3_7.out, P4_7.out, P5_7.out, P6_7.out, P7_7.out, fun i j h1 h2 => .inl (AP.out i j h1 h2), AB.out⟩
  clear a8 x0 y0 r_0 s_0 x1 y1 r_1 s_1 x2 y2 r_2 s_2 x3 y3 r_3 s_3 x4 y4 r_4 s_4 x5 y5 r_5 s_5 x6 y6 r_6 s_6 x7 y7 r_7 s_7 x8 y8 r_8 s_8
  refine bodyPost_ret (v := .agg #[.int .i64 kd, .slice (some ⟨q1, 0, none⟩) n1 n1, .slice (some ⟨q2, 0, none⟩) l2.length l2.length, .slice (some ⟨q3, 0, none⟩) n3 n3, .slice (some ⟨q4, 0, none⟩) l4.length l4.length, .slice (some ⟨q5, 0, none⟩) hs.length hs.length, .slice (some ⟨q6, 0, none⟩) l6.length l6.length, .slice (some ⟨q7, 0, none⟩) n7 n7, .int .i64 nx]) (by simp [results, Try.results34, go_sem, q_0, q_1, q_2, q_3, q_4, q_5, q_6, q_7, q_8]; done) rfl ⟨({ kind := kd, pc := ⟨(((w.alloc (Obj.cells #[.int .i64 kd, .slice A1 n1 c1, .slice A2 l2.length c2, .slice A3 n3 c3, .slice A4 l4.length c4, .slice A5 hs.length c5, .slice A6 l6.length c6, .slice A7 n7 c7, .int .i64 nx] 58)).alloc (Obj.cells #[.int .i64 0, .slice none 0 0, .slice none 0 0, .slice none 0 0, .slice none 0 0, .slice none 0 0, .slice none 0 0, .slice none 0 0, .int .i64 0] 48)).alloc (Obj.cells #[.int .i64 kd, .slice none 0 0, .slice none 0 0, .slice none 0 0, .slice none 0 0, .slice none 0 0, .slice none 0 0, .slice none 0 0, .int .i64 0] 48)).heap.size, w2.heap.size, some ⟨q1, 0, none⟩, n1, n1, z1⟩, F := ⟨(w2.setCell ⟨w.heap.size + 1 + 1, 1, none⟩ (.slice (some ⟨q1, 0, none⟩) n1 n1)).heap.size, w3.heap.size, some ⟨q2, 0, none⟩, l2.length, l2.length, r2⟩, mem := ⟨(w3.setCell ⟨w.heap.size + 1 + 1, 2, none⟩ (.slice (some ⟨q2, 0, none⟩) l2.length l2.length)).heap.size, w4.heap.size, some ⟨q3, 0, none⟩, n3, n3, z3⟩, bufs := ⟨(w4.setCell ⟨w.heap.size + 1 + 1, 3, none⟩ (.slice (some ⟨q3, 0, none⟩) n3 n3)).heap.size, w5.heap.size, some ⟨q4, 0, none⟩, l4.length, l4.length, r4⟩, H := ⟨(w5.setCell ⟨w.heap.size + 1 + 1, 4, none⟩ (.slice (some ⟨q4, 0, none⟩) l4.length l4.length)).heap.size, w6.heap.size, some ⟨q5, 0, none⟩, hs.length, hs.length, hs, los, his, pq, qs⟩, view := ⟨(w6.setCell ⟨w.heap.size + 1 + 1, 5, none⟩ (.slice (some ⟨q5, 0, none⟩) hs.length hs.length)).heap.size, w7.heap.size, some ⟨q6, 0, none⟩, l6.length, l6.length, r6⟩, sc := ⟨(w7.setCell ⟨w.heap.size + 1 + 1, 6, none⟩ (.slice (some ⟨q6, 0, none⟩) l6.length l6.length)).heap.size, w8.heap.size, some ⟨q7, 0, none⟩, n7, n7, z7⟩, next := nx } : StD), rfl, SI.out.far AL.out hkeep.out (by rw [hsz.out]; exact Nat.le_refl _), fun i hi => Nat.le_trans (by omega) (AL.out i hi), ⟨⟨rfl, rfl⟩, ⟨rfl, rfl⟩, S2.out, ⟨rfl, rfl⟩, S4.out, rfl, S6.out, ⟨rfl, rfl⟩⟩, hbl.out⟩
end Go.Proofs.Ytfkaacfeikmabaa
