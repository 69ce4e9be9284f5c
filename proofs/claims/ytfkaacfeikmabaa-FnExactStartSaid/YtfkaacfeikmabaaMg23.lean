/- The model's PlaceOf, for any history. · spec.l4view: any histories, any view. · kindOf of any state; whether a state has no memory, no buffers, no views. · commonOk of any state. · isCell. -/
import Derived.Test.YtfkaacfeikmabaaMg1
import Derived.Test.YtfkaacfeikmabaaMg3
import Derived.Test.YtfkaacfeikmabaaMg4
import Derived.Test.YtfkaacfeikmabaaMg5
import Derived.Test.YtfkaacfeikmabaaMg14
import Derived.Test.YtfkaacfeikmabaaMg18
import Derived.Deep.RegionLaw
import Derived.Deep.DeepCutAuto
import Derived.Deep.DrawnRows
import Derived.Deep.RegionHeld3
import Derived.BigQuiet
import Derived.Deep.QuietTactic
namespace Go.Proofs.Ytfkaacfeikmabaa
open Go.RowKit

attribute [local go_sem ↓] Go.wp_at_zero Go.wp_at_succ

set_option maxRecDepth 100000 in
set_option maxHeartbeats 800000 in
theorem splaceOf_any (A : Option Addr) (l : List PostD) (c : Nat) (i : Int) (w : World) (hS : PostsAt w (Old w.heap.size) A l) :
    Calls Try.prog 192 #[.agg #[.slice A l.length c], .int .i64 i] w fun e w' => e = .returned (.int .i64 (placeI l i)) ∧ Below w.heap.size w w' := by
  have hn := hS.1
  have hB0 := below1 w (Obj.cells #[Value.slice A l.length c] 84)
  have hX := (Blk.new w 84 #[Value.slice A l.length c]).cell 0
  simp only [List.getElem?_toArray, List.getElem?_cons_zero] at hX
  replace hS := hide (hS.below hB0 (fun _ h => h))
  obtain ⟨W, hW⟩ : ∃ W, W = w.alloc (Obj.cells #[Value.slice A l.length c] 84) := ⟨_, rfl⟩
  rw [← hW] at hX hB0 hS
  go_enter Try.func192, Try.ntmps192
  go_wp2_with fail
  rw [← hW]
  clear hW
  replace hB0 := hide hB0
  go_loop [5] (fun q => ∃ k : Nat, k ≤ l.length ∧ q = .int .i64 k ∧ ∀ j, j < k → idAt l j ≠ i) (fun q => l.length - (intOf q).toNat)
  case atStart => exact ⟨0, Nat.zero_le _, rfl, fun j hj => absurd hj (Nat.not_lt_zero j)⟩
  case round =>
    obtain ⟨k, hk, rfl, hno⟩ := hrel
    replace hno := hide hno
    by_cases hlt : k < l.length
    · obtain ⟨b, off, rfl, hbB, hc⟩ := hS.out.2 (by omega)
      obtain ⟨V, cv, ⟨p0, p1, p2, p3⟩, hcap, hin⟩ := hc k hlt
      clear hc
      by_cases he : (getp l k).id = i
      · have hpl := hide (place_hit hlt he hno.out)
        go_wp2_with fail
        go_ret
        exact ⟨ret_int hpl.out.symm, hB0.out⟩
      · have he' : ((getp l k).id == i) = false := by simpa using he
        have hno2 := hide (show ∀ j, j < k + 1 → idAt l j ≠ i from fun j hj => by
          rcases Nat.lt_or_ge j k with h | h
          · exact hno.out j h
          · obtain rfl : j = k := by omega
            exact he)
        clear he
        go_wp2_with fail
        go_round
        case rel => exact ⟨k + 1, by omega, by go_num, hno2.out⟩
        case measure => simp [intOf]; omega
    · obtain rfl : k = l.length := by omega
      have hpl := hide (place_miss hno.out)
      go_wp2_with fail
      go_ret
      exact ⟨ret_int hpl.out.symm, hB0.out⟩
end Go.Proofs.Ytfkaacfeikmabaa

namespace Go.Proofs.Ytfkaacfeikmabaa
open Go.RowKit

/-- What a round of l4view reads. -/
structure LvR (n g b off bv ov k : Nat) (A A' V : Option Addr) (m cA c' cv mv : Nat) (l : List PostD) (x : Int) (w : World) : Prop where
  st : w.cell? ⟨g, 5, none⟩ = some (.slice A m cA)
  hc : w.cell? ⟨b, off + k, none⟩ = some (.slice A' l.length c')
  vc : w.cell? ⟨bv, ov + k, none⟩ = some (.int .i64 x)
  ps : PostsAt w (Old n) A' l
  lt : g < w.heap.size ∧ b < n ∧ bv < n
  sz : n ≤ w.heap.size
theorem LvR.next {n g b off bv ov k : Nat} {A A' V : Option Addr} {m cA c' cv mv : Nat} {l : List PostD} {x : Int} {w w' : World} (h : LvR n g b off bv ov k A A' V m cA c' cv mv l x w) (hb : Below w.heap.size w w') : LvR n g b off bv ov k A A' V m cA c' cv mv l x w' :=
  ⟨(hb.cell (p := ⟨g, 5, none⟩) h.lt.1).trans h.st, (hb.cell (p := ⟨b, off + k, none⟩) (Nat.lt_of_lt_of_le h.lt.2.1 h.sz)).trans h.hc, (hb.cell (p := ⟨bv, ov + k, none⟩) (Nat.lt_of_lt_of_le h.lt.2.2 h.sz)).trans h.vc, h.ps.below hb (fun _ hx => Nat.lt_of_lt_of_le hx h.sz), ⟨Nat.lt_of_lt_of_le h.lt.1 hb.size, h.lt.2⟩, Nat.le_trans h.sz hb.size⟩

set_option maxRecDepth 100000 in
set_option maxHeartbeats 6400000 in
theorem sl4view_any (g n : Nat) (A : Option Addr) (hs : List (List PostD)) (cA : Nat) (V : Option Addr) (vs : List Int) (c : Nat) (w : World) (hg : w.cell? ⟨g, 5, none⟩ = some (.slice A hs.length cA)) (hgl : g < w.heap.size) (hH : HistsAt w (Old n) A hs) (hV : IntsAt w (Old n) V vs) (hz : n ≤ w.heap.size) :
    Calls Try.prog 158 #[.pointer (some ⟨g, 0, none⟩), .slice V vs.length c] w fun e w' => e = .returned (.bool (viewB hs vs)) ∧ Below w.heap.size w w' := by
  have hn := hV.1
  have hn2 := hH.1
  have hH := hide hH
  have hV := hide hV
  have hgH := hide hg
  go_enter Try.func158, Try.ntmps158
  by_cases hl : vs.length = hs.length
  · have hl' : ((vs.length : Int) != (hs.length : Int)) = false := by simp [hl]
    have hle : vs.length ≤ hs.length := by omega
    replace hl := hide hl
    go_wp2_with fail
    clear hg
    go_loopw [5] (fun i wr => ∃ (k : Nat), k ≤ vs.length ∧ i = .int .i64 k ∧ Hid (∀ j, j < k → 0 ≤ placeI (geth hs j) (geti vs j)) ∧ Hid (Below w.heap.size w wr)) (fun i _ => vs.length - (intOf i).toNat)
    case atStart => exact ⟨0, Nat.zero_le _, rfl, hide (fun j hj => by omega), hide (Below.refl _ _)⟩
    case round =>
      obtain ⟨k, hk, rfl, hdone, hb⟩ := hrel
      by_cases hlt : k < vs.length
      · obtain ⟨b, off, rfl, hSb, hc⟩ := (hH.out.below hb.out (fun b h => Nat.lt_of_lt_of_le h hz)).2 (by omega)
        obtain ⟨A', c', hcell, -, hp⟩ := hc k (by omega)
        obtain ⟨bv, ov, rfl, hSv, hcv⟩ := (hV.out.below hb.out (fun b h => Nat.lt_of_lt_of_le h hz)).2 (by omega)
        have hcell2 := hcv k hlt
        have hlt' : (k : Int) < (vs.length : Int) := by omega
        have hlt2 : (k : Int) < (hs.length : Int) := by omega
        have hk0 : (0 : Int) ≤ (k : Int) := by omega
        clear hc hcv
        obtain ⟨l, hgl2⟩ : ∃ l, l = geth hs k := ⟨_, rfl⟩
        obtain ⟨x, hgx⟩ : ∃ x, x = geti vs k := ⟨_, rfl⟩
        rw [← hgl2] at hcell hp
        rw [← hgx] at hcell2
        have hbad := hide (fun (hx : placeI l x < 0) => (show viewB hs vs = false from by unfold viewB; rw [allB_no (by omega : k < hs.length) (by rw [decide_eq_false]; rw [← hgl2, ← hgx]; omega)]; simp))
        have hgood := hide (fun (hx : 0 ≤ placeI l x) => (show 0 ≤ placeI (geth hs k) (geti vs k) from by rw [← hgl2, ← hgx]; exact hx))
        clear hgl2 hgx
        have R0 := hide (show LvR n g b off bv ov k (some ⟨b, off, none⟩) A' (some ⟨bv, ov, none⟩) hs.length cA c' c vs.length l x wr.drew from
          (⟨(hb.out.cell (p := ⟨g, 5, none⟩) hgl).trans hgH.out, hcell, hcell2, hp, ⟨Nat.lt_of_lt_of_le hgl hb.out.size, hSb, hSv⟩, Nat.le_trans hz hb.out.size⟩ : LvR n g b off bv ov k (some ⟨b, off, none⟩) A' (some ⟨bv, ov, none⟩) hs.length cA c' c vs.length l x wr).next (Below.refl _ _).drew)
        have B0 := hide hb.out.drew
        clear hcell hcell2 hp
        go_wp2_with fail
        go_region_held3 (fun w' => w'.cell? ⟨g, 5, none⟩ = some (.slice (some ⟨b, off, none⟩) hs.length cA) ∧ w'.cell? ⟨b, off + k, none⟩ = some (.slice A' l.length c') ∧ w'.cell? ⟨bv, ov + k, none⟩ = some (.int .i64 x))
          (first | exact ⟨R0.out.st, R0.out.hc, R0.out.vc⟩ | exact ⟨R1.out.st, R1.out.hc, R1.out.vc⟩)
          (first
          | (go_at_call 192; refine (splaceOf_any A' l c' x _ (R0.out.ps.more (fun _ hx => Nat.lt_of_lt_of_le hx R0.out.sz))).mono ?_; rintro e w1 ⟨rfl, hb1⟩; have R1 := hide (R0.out.next hb1); have B1 := hide (below_then B0.out hb1)))
        by_cases hx : placeI l x < 0
        · have hE := hide (hbad.out hx)
          have hd : decide (placeI l x < 0) = true := decide_eq_true hx
          rw [hd]
          go_wp2_with fail
          go_ret
          exact ⟨ret_bool hE.out.symm, B1.out⟩
        · have hok := hide (hgood.out (by omega))
          have hd : decide (placeI l x < 0) = false := decide_eq_false hx
          rw [hd]
          go_wp2_with fail
          go_roundw
          case rel => exact ⟨k + 1, by omega, by go_num, hide (fun j hj => by
            rcases Nat.lt_succ_iff_lt_or_eq.1 hj with h | rfl
            · exact hdone.out j h
            · exact hok.out), B1⟩
          case measure => simp [intOf]; omega
      · obtain rfl : k = vs.length := by omega
        have hE := hide (show viewB hs vs = true from by unfold viewB; rw [← hl.out, allB_yes (fun j hj => decide_eq_true (hdone.out j hj))]; simp)
        go_wp2_with fail
        go_ret
        exact ⟨ret_bool hE.out.symm, hb.out⟩
  · have hl' : ((vs.length : Int) != (hs.length : Int)) = true := by rw [bne_iff_ne]; omega
    have hE := hide (show viewB hs vs = false from by unfold viewB; simp [hl])
    clear hl
    go_wp2_with fail
    go_ret
    exact ⟨ret_bool hE.out.symm, Below.refl _ _⟩
end Go.Proofs.Ytfkaacfeikmabaa

namespace Go.Proofs.Ytfkaacfeikmabaa
open Go.RowKit

theorem Blk.new3 (w : World) (o1 o2 o3 : Obj) (t : TypeId) (cs : Array Value) : Blk ((((w.alloc o1).alloc o2).alloc o3).alloc (Obj.cells cs t)) (w.heap.size + 1 + 1 + 1) t cs := by
  have h := Blk.new (((w.alloc o1).alloc o2).alloc o3) t cs
  simpa only [World.size_alloc] using h
theorem noCells (n : Nat) : ((n : Int) == 0) = decide (n = 0) := by
  rw [Bool.eq_iff_iff]
  simp

set_option maxRecDepth 100000 in
set_option maxHeartbeats 1600000 in
theorem kindOf_0 (A1 A2 A3 A4 A5 A6 A7 A8 A9 : Option Addr) (n1 n2 n3 n4 n5 n6 n7 n8 n9 c1 c2 c3 c4 c5 c6 c7 c8 c9 : Nat) (nx : Int) (w : World) :
    Calls Try.prog 101 #[.agg #[.slice A1 n1 c1, .slice A2 n2 c2], .agg #[.int .i64 0, .slice A3 n3 c3, .slice A4 n4 c4, .slice A5 n5 c5, .slice A6 n6 c6, .slice A7 n7 c7, .slice A8 n8 c8, .slice A9 n9 c9, .int .i64 nx]] w fun e w' => ∃ T, e = .returned (.iface 133 (.pointer (some ⟨T, 0, none⟩))) ∧ Blk w' T 137 #[.slice A1 n1 c1, .slice A2 n2 c2, .slice A3 n3 c3, .slice A4 n4 c4, .slice A5 n5 c5] ∧ w.heap.size ≤ T ∧ Below w.heap.size w w' := by
  go_enter Try.func101, Try.ntmps101
  go_wp2_with fail
  go_ret
  exact ⟨_, rfl, Blk.new3 _ _ _ _ _ _, by omega, ((below2 _ _ _).alloc (by simp; omega) _).alloc (by simp; omega) _⟩

set_option maxRecDepth 100000 in
set_option maxHeartbeats 1600000 in
theorem kindOf_1 (A1 A2 A3 A4 A5 A6 A7 A8 A9 : Option Addr) (n1 n2 n3 n4 n5 n6 n7 n8 n9 c1 c2 c3 c4 c5 c6 c7 c8 c9 : Nat) (nx : Int) (w : World) :
    Calls Try.prog 101 #[.agg #[.slice A1 n1 c1, .slice A2 n2 c2], .agg #[.int .i64 1, .slice A3 n3 c3, .slice A4 n4 c4, .slice A5 n5 c5, .slice A6 n6 c6, .slice A7 n7 c7, .slice A8 n8 c8, .slice A9 n9 c9, .int .i64 nx]] w fun e w' => ∃ T, e = .returned (.iface 139 (.pointer (some ⟨T, 0, none⟩))) ∧ Blk w' T 141 #[.slice A1 n1 c1, .slice A2 n2 c2, .slice A3 n3 c3, .slice A4 n4 c4, .slice A5 n5 c5, .slice A6 n6 c6] ∧ w.heap.size ≤ T ∧ Below w.heap.size w w' := by
  go_enter Try.func101, Try.ntmps101
  go_wp2_with fail
  go_ret
  exact ⟨_, rfl, Blk.new3 _ _ _ _ _ _, by omega, ((below2 _ _ _).alloc (by simp; omega) _).alloc (by simp; omega) _⟩

set_option maxRecDepth 100000 in
set_option maxHeartbeats 1600000 in
theorem kindOf_2 (A1 A2 A3 A4 A5 A6 A7 A8 A9 : Option Addr) (n1 n2 n3 n4 n5 n6 n7 n8 n9 c1 c2 c3 c4 c5 c6 c7 c8 c9 : Nat) (nx : Int) (w : World) :
    Calls Try.prog 101 #[.agg #[.slice A1 n1 c1, .slice A2 n2 c2], .agg #[.int .i64 2, .slice A3 n3 c3, .slice A4 n4 c4, .slice A5 n5 c5, .slice A6 n6 c6, .slice A7 n7 c7, .slice A8 n8 c8, .slice A9 n9 c9, .int .i64 nx]] w fun e w' => ∃ T, e = .returned (.iface 142 (.pointer (some ⟨T, 0, none⟩))) ∧ Blk w' T 144 #[.slice A1 n1 c1, .slice A2 n2 c2, .slice A3 n3 c3, .slice A4 n4 c4, .slice A7 n7 c7, .slice A8 n8 c8, .slice A9 n9 c9, .int .i64 nx] ∧ w.heap.size ≤ T ∧ Below w.heap.size w w' := by
  go_enter Try.func101, Try.ntmps101
  go_wp2_with fail
  go_ret
  exact ⟨_, rfl, Blk.new3 _ _ _ _ _ _, by omega, ((below2 _ _ _).alloc (by simp; omega) _).alloc (by simp; omega) _⟩

set_option maxRecDepth 100000 in
set_option maxHeartbeats 1600000 in
theorem kindOf_no (A1 A2 A3 A4 A5 A6 A7 A8 A9 : Option Addr) (n1 n2 n3 n4 n5 n6 n7 n8 n9 c1 c2 c3 c4 c5 c6 c7 c8 c9 : Nat) (nx : Int) (w : World) (kd : Int) (h0 : kd ≠ 0) (h1 : kd ≠ 1) (h2 : kd ≠ 2) :
    Calls Try.prog 101 #[.agg #[.slice A1 n1 c1, .slice A2 n2 c2], .agg #[.int .i64 kd, .slice A3 n3 c3, .slice A4 n4 c4, .slice A5 n5 c5, .slice A6 n6 c6, .slice A7 n7 c7, .slice A8 n8 c8, .slice A9 n9 c9, .int .i64 nx]] w fun e w' => e = .returned .nilIface ∧ Below w.heap.size w w' := by
  have h0' : (kd == 0) = false := by simpa using h0
  have h1' : (kd == 1) = false := by simpa using h1
  have h2' : (kd == 2) = false := by simpa using h2
  go_enter Try.func101, Try.ntmps101
  go_wp2_with fail
  go_ret
  exact ⟨rfl, (below2 _ _ _).alloc (by simp; omega) _⟩
set_option maxHeartbeats 1600000 in
theorem noMem_any (s : StD) (w : World) : Calls Try.prog 107 #[.agg s.cells] w fun e w' => e = .returned (.bool (decide (s.mem.n = 0))) ∧ Below w.heap.size w w' := by
  unfold StD.cells
  go_enter Try.func107, Try.ntmps107
  go_wp2_with fail
  go_ret
  exact ⟨ret_bool (noCells _), below1 _ _⟩
set_option maxHeartbeats 1600000 in
theorem noBufs_any (s : StD) (w : World) : Calls Try.prog 104 #[.agg s.cells] w fun e w' => e = .returned (.bool (decide (s.bufs.n = 0))) ∧ Below w.heap.size w w' := by
  unfold StD.cells
  go_enter Try.func104, Try.ntmps104
  go_wp2_with fail
  go_ret
  exact ⟨ret_bool (noCells _), below1 _ _⟩

set_option maxRecDepth 100000 in
set_option maxHeartbeats 3200000 in
theorem noViews_any (s : StD) (w : World) : Calls Try.prog 105 #[.agg s.cells] w fun e w' => e = .returned (.bool (decide (s.H.n = 0) && decide (s.view.n = 0) && decide (s.sc.n = 0) && decide (s.next = 0))) ∧ Below w.heap.size w w' := by
  have hb0 := hide (below1 w (Obj.cells s.cells 48))
  unfold StD.cells at hb0 ⊢
  by_cases hH : s.H.n = 0
  · by_cases hview : s.view.n = 0
    · by_cases hsc : s.sc.n = 0
      · have kH : ((s.H.n : Int) == 0) = true := by simp [hH]
        have kview : ((s.view.n : Int) == 0) = true := by simp [hview]
        have ksc : ((s.sc.n : Int) == 0) = true := by simp [hsc]
        have hE := hide (show (decide (s.H.n = 0) && decide (s.view.n = 0) && decide (s.sc.n = 0) && decide (s.next = 0)) = (s.next == 0) from by simp [hH, hview, hsc]; rfl)
        clear hH hview hsc
        go_enter Try.func105, Try.ntmps105
        go_wp2_with fail
        go_ret
        exact ⟨ret_bool hE.out.symm, hb0.out⟩
      · have kH : ((s.H.n : Int) == 0) = true := by simp [hH]
        have kview : ((s.view.n : Int) == 0) = true := by simp [hview]
        have ksc : ((s.sc.n : Int) == 0) = false := by rw [noCells]; simp [hsc]
        have hE := hide (show (decide (s.H.n = 0) && decide (s.view.n = 0) && decide (s.sc.n = 0) && decide (s.next = 0)) = false from by simp [hsc])
        clear hH hview hsc
        go_enter Try.func105, Try.ntmps105
        go_wp2_with fail
        go_ret
        exact ⟨ret_bool hE.out.symm, hb0.out⟩
    · have kH : ((s.H.n : Int) == 0) = true := by simp [hH]
      have kview : ((s.view.n : Int) == 0) = false := by rw [noCells]; simp [hview]
      have hE := hide (show (decide (s.H.n = 0) && decide (s.view.n = 0) && decide (s.sc.n = 0) && decide (s.next = 0)) = false from by simp [hview])
      clear hH hview
      go_enter Try.func105, Try.ntmps105
      go_wp2_with fail
      go_ret
      exact ⟨ret_bool hE.out.symm, hb0.out⟩
  · have kH : ((s.H.n : Int) == 0) = false := by rw [noCells]; simp [hH]
    have hE := hide (show (decide (s.H.n = 0) && decide (s.view.n = 0) && decide (s.sc.n = 0) && decide (s.next = 0)) = false from by simp [hH])
    clear hH
    go_enter Try.func105, Try.ntmps105
    go_wp2_with fail
    go_ret
    exact ⟨ret_bool hE.out.symm, hb0.out⟩
end Go.Proofs.Ytfkaacfeikmabaa

namespace Go.Proofs.Ytfkaacfeikmabaa
open Go.RowKit

set_option maxRecDepth 100000 in
set_option maxHeartbeats 12800000 in
theorem commonOk_any (A1 A2 A3 A4 : Option Addr) (n1 c1 c2 c3 c4 : Nat) (ts : List (List InsD)) (pcs : List Int) (rs : List RowD) (S : Nat → Prop) (w : World) (hS : ∀ b, S b → b < w.heap.size) (ht : ThreadsAt w S A2 ts) (hp : IntsAt w S A3 pcs) (hf : RowsAt w S A4 rs) :
    Calls Try.prog 102 #[.agg #[.slice A1 n1 c1, .slice A2 ts.length c2, .slice A3 pcs.length c3, .slice A4 rs.length c4]] w fun e w' => e = .returned (.bool (comB ts pcs rs)) ∧ Below w.heap.size w w' := by
  have hn := ht.1
  have hn3 := hp.1
  have hn4 := hf.1
  have hp := hide hp
  have hf := hide hf
  have ht := hide ht
  have K0 := hide (Blk.new w 135 #[.slice A1 n1 c1, .slice A2 ts.length c2, .slice A3 pcs.length c3, .slice A4 rs.length c4])
  have hb0 := hide (below1 w (Obj.cells #[.slice A1 n1 c1, .slice A2 ts.length c2, .slice A3 pcs.length c3, .slice A4 rs.length c4] 135))
  go_enter Try.func102, Try.ntmps102
  go_wp2_with fail
  obtain ⟨wq, hwq⟩ : ∃ wq, wq = w.alloc (Obj.cells #[.slice A1 n1 c1, .slice A2 ts.length c2, .slice A3 pcs.length c3, .slice A4 rs.length c4] 135) := ⟨_, rfl⟩
  rw [← hwq] at K0 hb0 ⊢
  clear hwq
  have H0 : Hid (Blk wq.drew w.heap.size 135 #[.slice A1 n1 c1, .slice A2 ts.length c2, .slice A3 pcs.length c3, .slice A4 rs.length c4]) := K0.out
  replace hb0 := hide hb0.out.drew
  by_cases hl : pcs.length = ts.length
  · have hl' : ((pcs.length : Int) != (ts.length : Int)) = false := by simp [hl]
    by_cases hl2 : rs.length = ts.length
    · have hl2' : ((rs.length : Int) != (ts.length : Int)) = false := by simp [hl2]
      have hle : ts.length ≤ pcs.length ∧ ts.length ≤ rs.length := by omega
      obtain ⟨hle1, hle2⟩ := hle
      replace hl := hide hl
      replace hl2 := hide hl2
      go_cut [18] (fun s18 wx => s18 = .bool false ∧ Blk wx w.heap.size 135 #[.slice A1 n1 c1, .slice A2 ts.length c2, .slice A3 pcs.length c3, .slice A4 rs.length c4] ∧ Below w.heap.size w wx)
      case first =>
        go_region_held3 (fun w' => w'.cell? ⟨w.heap.size, 0, none⟩ = some (.slice A1 n1 c1) ∧ w'.cell? ⟨w.heap.size, 1, none⟩ = some (.slice A2 ts.length c2) ∧ w'.cell? ⟨w.heap.size, 2, none⟩ = some (.slice A3 pcs.length c3) ∧ w'.cell? ⟨w.heap.size, 3, none⟩ = some (.slice A4 rs.length c4))
          (first | exact com4 H0.out | exact com4 K0.out | exact com4 H1.out | exact com4 H2.out)
          (first
          | (go_at_call 161; refine (comThreads_any _ _ _ _ _ _ _ _ _ _ _ _ _).mono ?_; rintro e w2 ⟨rfl, hb2⟩; have H2 := hide (H1.out.below hb2 H1.out.lt); have B2 := hide (below_then B1.out hb2))
          | (go_at_call 161; refine (comThreads_any _ _ _ _ _ _ _ _ _ _ _ _ _).mono ?_; rintro e w1 ⟨rfl, hb1⟩; have H1 := hide (H0.out.below hb1 H0.out.lt); have B1 := hide (below_then hb0.out hb1)))
        all_goals
          go_wp2_with fail
          go_meet
          exact ⟨by first | rfl | (rw [hl2']), H2.out, B2.out⟩
      case rest =>
        obtain ⟨rfl, K, hb⟩ := hcut
        obtain ⟨w3, rfl⟩ : ∃ w3 : World, w3 = wc := ⟨_, rfl⟩
        clear K0 hb0 H0
        obtain ⟨-, k1, -, -⟩ := com4 K
        have hlK := K.lt
        have K := hide K
        go_wp2_with fail
        go_loopw [23] (fun i wr => ∃ (k : Nat), k ≤ ts.length ∧ i = .int .i64 k ∧ Hid (∀ j, j < k → 0 ≤ geti pcs j ∧ geti pcs j ≤ ((gett ts j).length : Int) ∧ (getr rs j).n = 6) ∧ Hid (Blk wr w.heap.size 135 #[.slice A1 n1 c1, .slice A2 ts.length c2, .slice A3 pcs.length c3, .slice A4 rs.length c4]) ∧ Below w.heap.size w wr) (fun i _ => ts.length - (intOf i).toNat)
        case atStart => exact ⟨0, Nat.zero_le _, rfl, hide (fun j hj => by omega), K, hb⟩
        case round =>
          obtain ⟨k, hk, rfl, hdone, K5, hb5⟩ := hrel
          clear K hb k1
          by_cases hlt : k < ts.length
          · obtain ⟨b, off, rfl, hSb, hc⟩ := (ht.out.below hb5 hS).2 (by omega)
            obtain ⟨A', c', hcell, _, hth⟩ := hc k hlt
            have hn5 := hth.1
            clear hth
            obtain ⟨b2, off2, rfl, hSb2, hc2⟩ := (hp.out.below hb5 hS).2 (by omega)
            have hcell2 := hc2 k (by omega)
            obtain ⟨b3, off3, rfl, hSb3, hc3⟩ := (hf.out.below hb5 hS).2 (by omega)
            obtain ⟨A'', c'', hcell3, -⟩ := hc3 k (by omega)
            have hlt' : (k : Int) < (ts.length : Int) := by omega
            have hlt3 : (k : Int) < (pcs.length : Int) := by omega
            have hlt4 : (k : Int) < (rs.length : Int) := by omega
            have hk0 : (0 : Int) ≤ (k : Int) := by omega
            have hbl := Nat.lt_of_lt_of_le (hS b hSb) hb5.size
            obtain ⟨gn, hgn⟩ : ∃ gn, gn = (getr rs k).n := ⟨_, rfl⟩
            obtain ⟨gp, hgp⟩ : ∃ gp, gp = geti pcs k := ⟨_, rfl⟩
            obtain ⟨gl, hgl⟩ : ∃ gl, gl = (gett ts k).length := ⟨_, rfl⟩
            rw [← hgn] at hcell3
            rw [← hgp] at hcell2
            rw [← hgl] at hcell hn5
            have hbad := hide (fun (hx : ¬ (0 ≤ gp ∧ gp ≤ (gl : Int) ∧ gn = 6)) => (show comB ts pcs rs = false from by unfold comB; rw [allB_no hlt (by rw [decide_eq_false]; rw [← hgp, ← hgl, ← hgn]; exact hx)]; simp))
            have hgood := hide (fun (hx : 0 ≤ gp ∧ gp ≤ (gl : Int) ∧ gn = 6) => (show 0 ≤ geti pcs k ∧ geti pcs k ≤ ((gett ts k).length : Int) ∧ (getr rs k).n = 6 from by rw [← hgp, ← hgl, ← hgn]; exact hx))
            clear hgn hgp hgl
            have hR := hide (show CoRd w.heap.size wr.heap.size b2 b3 (off2 + k) (off3 + k) (.slice A1 n1 c1) (.slice (some ⟨b, off, none⟩) ts.length c2) (.slice (some ⟨b2, off2, none⟩) pcs.length c3) (.slice (some ⟨b3, off3, none⟩) rs.length c4) (.slice A' gl c') (.int .i64 gp) (.slice A'' gn c'') (wr.alloc (Obj.cells #[.slice A' gl c'] 99)) from
              ⟨K5.out.alloc _, Blk.new _ _ _, ⟨((below1 wr _).cell (p := ⟨b2, off2 + k, none⟩) (Nat.lt_of_lt_of_le (hS b2 hSb2) hb5.size)).trans hcell2, by simp only [World.size_alloc]; have := Nat.lt_of_lt_of_le (hS b2 hSb2) hb5.size; omega⟩, ⟨((below1 wr _).cell (p := ⟨b3, off3 + k, none⟩) (Nat.lt_of_lt_of_le (hS b3 hSb3) hb5.size)).trans hcell3, by simp only [World.size_alloc]; have := Nat.lt_of_lt_of_le (hS b3 hSb3) hb5.size; omega⟩⟩)
            have hb6 := hide (hb5.alloc hb5.size (Obj.cells #[.slice A' gl c'] 99))
            clear hc hc2 hc3 hcell2 hcell3
            go_wp2_with fail
            obtain ⟨wq, hwq⟩ : ∃ wq, wq = wr.alloc (Obj.cells #[.slice A' gl c'] 99) := ⟨_, rfl⟩
            rw [← hwq] at hR hb6 ⊢
            clear hwq
            generalize wr.heap.size = U at *
            have hRd := hide (hR.out.next (Below.refl _ _).drew)
            have hb7 := hide hb6.out.drew
            by_cases hx1 : gp < 0
            · have hE := hide (hbad.out (by omega))
              have hd1 : decide (gp < 0) = true := decide_eq_true hx1
              obtain ⟨q2, q3, q0, qp, qf⟩ := hR.out.cells
              go_quiet (fail)
              go_wp2_with fail
              go_ret
              exact ⟨ret_bool hE.out.symm, below_drewN hb6.out _⟩
            · have hd1 : decide (gp < 0) = false := decide_eq_false hx1
              by_cases hx2 : (gl : Int) < gp
              · have hE := hide (hbad.out (by omega))
                have hd2 : decide ((gl : Int) < gp) = true := decide_eq_true hx2
                obtain ⟨q2, q3, q0, qp, qf⟩ := hR.out.cells
                go_quiet (fail)
                go_wp2_with fail
                go_ret
                exact ⟨ret_bool hE.out.symm, below_drewN hb6.out _⟩
              · have hd2 : decide ((gl : Int) < gp) = false := decide_eq_false hx2
                go_cut [53] (fun s53 wx => s53 = .bool (!decide (gn = 6)) ∧ Blk wx w.heap.size 135 #[.slice A1 n1 c1, .slice (some ⟨b, off, none⟩) ts.length c2, .slice (some ⟨b2, off2, none⟩) pcs.length c3, .slice (some ⟨b3, off3, none⟩) rs.length c4] ∧ Below w.heap.size w wx)
                case first =>
                  go_region_held3 (fun w' => w'.cell? ⟨w.heap.size, 2, none⟩ = some (.slice (some ⟨b2, off2, none⟩) pcs.length c3) ∧ w'.cell? ⟨w.heap.size, 3, none⟩ = some (.slice (some ⟨b3, off3, none⟩) rs.length c4) ∧ w'.cell? ⟨U, 0, none⟩ = some (.slice A' gl c') ∧ w'.cell? ⟨b2, off2 + k, none⟩ = some (.int .i64 gp) ∧ w'.cell? ⟨b3, off3 + k, none⟩ = some (.slice A'' gn c''))
                    (first | exact hR.out.cells | exact hRd.out.cells | exact hR1.out.cells)
                    (first
                    | (go_at_call 119; refine (fileOk_any _ _ _ _).mono ?_; rintro e w8 ⟨rfl, hb8⟩; have hR1 := hide (hRd.out.next hb8); have B8 := hide (below_then hb7.out hb8)))
                  all_goals
                    go_wp2_with fail
                    go_meet
                    exact ⟨by first | rfl | (simp; done) | (trace_state; sorry), hR1.out.box, B8.out⟩
                case rest =>
                  obtain ⟨rfl, K9, hb9⟩ := hcut
                  by_cases hx3 : gn = 6
                  · have hd3 : (!decide (gn = 6)) = false := by simp [hx3]
                    have hok := hide (hgood.out ⟨by omega, by omega, hx3⟩)
                    rw [hd3]
                    go_wp2_with fail
                    go_roundw
                    case rel => exact ⟨k + 1, by omega, by go_num, hide (fun j hj => by
                      rcases Nat.lt_succ_iff_lt_or_eq.1 hj with h | rfl
                      · exact hdone.out j h
                      · exact hok.out), hide K9, hb9⟩
                    case measure => simp [intOf]; omega
                  · have hd3 : (!decide (gn = 6)) = true := by simp [hx3]
                    have hE := hide (hbad.out (by omega))
                    rw [hd3]
                    go_wp2_with fail
                    go_ret
                    exact ⟨ret_bool hE.out.symm, hb9⟩
          · obtain rfl : k = ts.length := by omega
            have hE := hide (show comB ts pcs rs = true from by unfold comB; rw [allB_yes (fun j hj => decide_eq_true (hdone.out j hj))]; simp [hl.out, hl2.out])
            go_wp2_with fail
            go_ret
            exact ⟨ret_bool hE.out.symm, hb5⟩
    · have hl2' : ((rs.length : Int) != (ts.length : Int)) = true := by rw [bne_iff_ne]; omega
      have hE := hide (show comB ts pcs rs = false from by unfold comB; simp [hl2])
      clear hl hl2
      go_cut [18] (fun s18 wx => s18 = .bool true ∧ Below w.heap.size w wx)
      case first =>
        go_region_held3 (fun w' => w'.cell? ⟨w.heap.size, 0, none⟩ = some (.slice A1 n1 c1) ∧ w'.cell? ⟨w.heap.size, 1, none⟩ = some (.slice A2 ts.length c2) ∧ w'.cell? ⟨w.heap.size, 2, none⟩ = some (.slice A3 pcs.length c3) ∧ w'.cell? ⟨w.heap.size, 3, none⟩ = some (.slice A4 rs.length c4))
          (first | exact com4 H0.out | exact com4 K0.out | exact com4 H1.out | exact com4 H2.out)
          (first
          | (go_at_call 161; refine (comThreads_any _ _ _ _ _ _ _ _ _ _ _ _ _).mono ?_; rintro e w2 ⟨rfl, hb2⟩; have H2 := hide (H1.out.below hb2 H1.out.lt); have B2 := hide (below_then B1.out hb2))
          | (go_at_call 161; refine (comThreads_any _ _ _ _ _ _ _ _ _ _ _ _ _).mono ?_; rintro e w1 ⟨rfl, hb1⟩; have H1 := hide (H0.out.below hb1 H0.out.lt); have B1 := hide (below_then hb0.out hb1)))
        all_goals
          go_wp2_with fail
          go_meet
          exact ⟨by first | rfl | (rw [hl2']), B2.out⟩
      case rest =>
        obtain ⟨rfl, hb⟩ := hcut
        go_wp2_with fail
        go_ret
        exact ⟨ret_bool hE.out.symm, hb⟩
  · have hl' : ((pcs.length : Int) != (ts.length : Int)) = true := by rw [bne_iff_ne]; omega
    have hE := hide (show comB ts pcs rs = false from by unfold comB; simp [hl])
    clear hl
    refine wp_region_held_drew (S := (fun w' => w'.cell? ⟨w.heap.size, 0, none⟩ = some (.slice A1 n1 c1) ∧ w'.cell? ⟨w.heap.size, 1, none⟩ = some (.slice A2 ts.length c2) ∧ w'.cell? ⟨w.heap.size, 2, none⟩ = some (.slice A3 pcs.length c3) ∧ w'.cell? ⟨w.heap.size, 3, none⟩ = some (.slice A4 rs.length c4))) (by kernel_rfl) ?_ (fun hHeld => ?_)
    · exact com4 H0.out
    refine wpAnyH_take (i := 0) (oi := { dst := some 5, op := Op.fieldAddr 135 (Operand.tmp 1) 1, type := 0, pos := "l02_state.go:101", after := #[], guard := none }) (v := ?_) rfl (by kernel_rfl) (by kernel_rfl) (by kernel_rfl) (fun _ _ _ h => h) (Or.inl ⟨by rfl, ?_⟩) hHeld ?_
    rotate_left
    · (intro wq hSw; (try dsimp only at hSw); first | (go_simp; done) | (go_simp; with_reducible rfl))
    try simp only [Act.put, List.setIfInBounds_toArray, List.set_cons_zero, List.set_cons_succ]
    refine wpAnyH_take (i := 1) (oi := { dst := some 6, op := Op.load 22 (Operand.tmp 5), type := 22, pos := "l02_state.go:101", after := #[{ on := 0, ground := Ground.data }], guard := none }) (v := ?_) rfl (by kernel_rfl) (by kernel_rfl) (by kernel_rfl) (fun _ _ _ h => h) (Or.inl ⟨by rfl, ?_⟩) hHeld ?_
    rotate_left
    · (intro wq hSw; (try dsimp only at hSw); first | (go_simp; done) | (go_simp; with_reducible rfl))
    try simp only [Act.put, List.setIfInBounds_toArray, List.set_cons_zero, List.set_cons_succ]
    refine wpAnyH_take (i := 2) (oi := { dst := some 7, op := Op.call { callee := Callee.builtin Builtin.len, args := #[Operand.tmp 6], argTypes := #[22] }, type := 3, pos := "l02_state.go:101", after := #[{ on := 1, ground := Ground.data }], guard := none }) (v := ?_) rfl (by kernel_rfl) (by kernel_rfl) (by kernel_rfl) (fun _ _ _ h => h) (Or.inl ⟨by rfl, ?_⟩) hHeld ?_
    rotate_left
    · (intro wq hSw; (try dsimp only at hSw); first | (go_simp; done) | (go_simp; with_reducible rfl))
    try simp only [Act.put, List.setIfInBounds_toArray, List.set_cons_zero, List.set_cons_succ]
    refine wpAnyH_take (i := 3) (oi := { dst := some 8, op := Op.load 135 (Operand.tmp 1), type := 135, pos := "l02_state.go:101", after := #[], guard := none }) (v := ?_) rfl (by kernel_rfl) (by kernel_rfl) (by kernel_rfl) (fun _ _ _ h => h) (Or.inl ⟨by rfl, ?_⟩) hHeld ?_
    rotate_left
    · (intro wq hSw; (try dsimp only at hSw); first | (go_simp; done) | (go_simp; with_reducible rfl))
    try simp only [Act.put, List.setIfInBounds_toArray, List.set_cons_zero, List.set_cons_succ]
    refine wpAnyH_ready (rs := [4]) (by kernel_rfl) (by simp) ?_
    refine AllReadyH.cons (o := { dst := some 9, op := Op.call { callee := Callee.value (Operand.func 161), args := #[Operand.tmp 8], argTypes := #[135] }, type := 3, pos := "l02_state.go:101", after := #[{ on := 3, ground := Ground.data }], guard := none }) rfl (fun K hK => ?_) AllReadyH.nil
    go_simp
    go_at_call 161; refine (comThreads_any _ _ _ _ _ _ _ _ _ _ _ _ _).mono ?_; rintro e w1 ⟨rfl, hb1⟩; have H1 := hide (H0.out.below hb1 H0.out.lt); have B1 := hide (below_then hb0.out hb1)
    refine hK.out _ _ ?_ (fun hHeldN => ?_)
    · exact com4 H1.out
    clear hK K hHeld
    have hHeld := hHeldN
    clear hHeldN
    try simp only [Act.put, List.setIfInBounds_toArray, List.set_cons_zero, List.set_cons_succ]
    refine wpAnyH_take (i := 5) (oi := { dst := some 10, op := Op.binOp BinOp.neq 3 (Operand.tmp 7) (Operand.tmp 9) 3, type := 4, pos := "l02_state.go:101", after := #[{ on := 2, ground := Ground.data }, { on := 4, ground := Ground.data }], guard := none }) (v := ?_) rfl (by kernel_rfl) (by kernel_rfl) (by kernel_rfl) (fun _ _ _ h => h) (Or.inl ⟨by rfl, ?_⟩) hHeld ?_
    rotate_left
    · (intro wq hSw; (try dsimp only at hSw); first | (go_simp; done) | (go_simp; with_reducible rfl))
    try simp only [Act.put, List.setIfInBounds_toArray, List.set_cons_zero, List.set_cons_succ]
    refine wpAnyH_take (i := 6) (oi := { dst := some 11, op := Op.move (Operand.tmp 10), type := 4, pos := "l02_state.go:101", after := #[{ on := 5, ground := Ground.data }, { on := 4, ground := Ground.chain }], guard := none }) (v := ?_) rfl (by kernel_rfl) (by kernel_rfl) (by kernel_rfl) (fun _ _ _ h => h) (Or.inl ⟨by rfl, ?_⟩) hHeld ?_
    rotate_left
    · (intro wq hSw; (try dsimp only at hSw); first | (go_simp; done) | (go_simp; with_reducible rfl))
    try simp only [Act.put, List.setIfInBounds_toArray, List.set_cons_zero, List.set_cons_succ]
    refine wpAnyH_take (i := 7) (oi := { dst := some 12, op := Op.fieldAddr 135 (Operand.tmp 1) 2, type := 0, pos := "l02_state.go:101", after := #[{ on := 6, ground := Ground.guard }], guard := some (6, false) }) (v := undef) rfl (by kernel_rfl) (by kernel_rfl) (by kernel_rfl) (fun _ _ _ h => h) (Or.inr ⟨by rfl, rfl⟩) hHeld ?_
    try simp only [Act.put, List.setIfInBounds_toArray, List.set_cons_zero, List.set_cons_succ]
    refine wpAnyH_take (i := 8) (oi := { dst := some 13, op := Op.load 44 (Operand.tmp 12), type := 44, pos := "l02_state.go:101", after := #[{ on := 7, ground := Ground.data }, { on := 6, ground := Ground.guard }], guard := some (6, false) }) (v := undef) rfl (by kernel_rfl) (by kernel_rfl) (by kernel_rfl) (fun _ _ _ h => h) (Or.inr ⟨by rfl, rfl⟩) hHeld ?_
    try simp only [Act.put, List.setIfInBounds_toArray, List.set_cons_zero, List.set_cons_succ]
    refine wpAnyH_take (i := 9) (oi := { dst := some 14, op := Op.call { callee := Callee.builtin Builtin.len, args := #[Operand.tmp 13], argTypes := #[44] }, type := 3, pos := "l02_state.go:101", after := #[{ on := 8, ground := Ground.data }, { on := 6, ground := Ground.guard }], guard := some (6, false) }) (v := undef) rfl (by kernel_rfl) (by kernel_rfl) (by kernel_rfl) (fun _ _ _ h => h) (Or.inr ⟨by rfl, rfl⟩) hHeld ?_
    try simp only [Act.put, List.setIfInBounds_toArray, List.set_cons_zero, List.set_cons_succ]
    refine wpAnyH_take (i := 10) (oi := { dst := some 15, op := Op.load 135 (Operand.tmp 1), type := 135, pos := "l02_state.go:101", after := #[{ on := 6, ground := Ground.guard }], guard := some (6, false) }) (v := undef) rfl (by kernel_rfl) (by kernel_rfl) (by kernel_rfl) (fun _ _ _ h => h) (Or.inr ⟨by rfl, rfl⟩) hHeld ?_
    try simp only [Act.put, List.setIfInBounds_toArray, List.set_cons_zero, List.set_cons_succ]
    refine wpAnyH_take (i := 11) (oi := { dst := some 16, op := Op.call { callee := Callee.value (Operand.func 161), args := #[Operand.tmp 15], argTypes := #[135] }, type := 3, pos := "l02_state.go:101", after := #[{ on := 10, ground := Ground.data }, { on := 6, ground := Ground.chain }, { on := 6, ground := Ground.guard }], guard := some (6, false) }) (v := undef) rfl (by kernel_rfl) (by kernel_rfl) (by kernel_rfl) (fun _ _ _ h => h) (Or.inr ⟨by rfl, rfl⟩) hHeld ?_
    try simp only [Act.put, List.setIfInBounds_toArray, List.set_cons_zero, List.set_cons_succ]
    refine wpAnyH_take (i := 12) (oi := { dst := some 17, op := Op.binOp BinOp.neq 3 (Operand.tmp 14) (Operand.tmp 16) 3, type := 4, pos := "l02_state.go:101", after := #[{ on := 9, ground := Ground.data }, { on := 11, ground := Ground.data }, { on := 6, ground := Ground.guard }], guard := some (6, false) }) (v := undef) rfl (by kernel_rfl) (by kernel_rfl) (by kernel_rfl) (fun _ _ _ h => h) (Or.inr ⟨by rfl, rfl⟩) hHeld ?_
    try simp only [Act.put, List.setIfInBounds_toArray, List.set_cons_zero, List.set_cons_succ]
    refine wpAnyH_take (i := 13) (oi := { dst := some 18, op := Op.pick (Operand.tmp 11) (Operand.const (Value.bool true)) (Operand.tmp 17), type := 4, pos := "l02_state.go:101", after := #[{ on := 6, ground := Ground.data }, { on := 12, ground := Ground.data }], guard := none }) (v := ?_) rfl (by kernel_rfl) (by kernel_rfl) (by kernel_rfl) (fun _ _ _ h => h) (Or.inl ⟨by rfl, ?_⟩) hHeld ?_
    rotate_left
    · (intro wq hSw; (try dsimp only at hSw); first | (go_simp; done) | (go_simp; with_reducible rfl))
    try simp only [Act.put, List.setIfInBounds_toArray, List.set_cons_zero, List.set_cons_succ]
    refine wpAnyH_done (by kernel_rfl) ?_ _
    go_wp2_with fail
    go_ret
    exact ⟨ret_bool hE.out.symm, B1.out⟩
end Go.Proofs.Ytfkaacfeikmabaa

namespace Go.Proofs.Ytfkaacfeikmabaa
open Go.RowKit

/-- Is x the number of one of m cells? -/
def cellB (x : Int) (m : Nat) : Bool := decide (0 ≤ x ∧ x < m)
theorem cellB_yes {x : Int} {m : Nat} (h : 0 ≤ x ∧ x < m) : cellB x m = true := decide_eq_true h
theorem cellB_no {x : Int} {m : Nat} (h : ¬ (0 ≤ x ∧ x < m)) : cellB x m = false := decide_eq_false h

set_option maxHeartbeats 800000 in
theorem isCell_any (x : Int) (m : Nat) (w : World) : Calls Try.prog 162 #[.int .i64 x, .int .i64 m] w fun e w' => e = .returned (.bool (cellB x m)) ∧ w = w' := by
  by_cases h0 : 0 ≤ x
  · by_cases h1 : x < m
    · rw [cellB_yes ⟨h0, h1⟩]
      go_enter Try.func162, Try.ntmps162
      go_wp2
      go_ret
      exact ⟨rfl, rfl⟩
    · rw [cellB_no (by omega)]
      have h2 : decide (x < (m : Int)) = false := by simpa using h1
      go_enter Try.func162, Try.ntmps162
      go_wp2
      go_ret
      exact ⟨rfl, rfl⟩
  · rw [cellB_no (by omega)]
    have h2 : decide (0 ≤ x) = false := by simpa using h0
    go_enter Try.func162, Try.ntmps162
    go_wp2
    go_ret
    exact ⟨rfl, rfl⟩
end Go.Proofs.Ytfkaacfeikmabaa
