/- slices.Clone of numbers. -/
import Derived.Test.YtjendjbbhohjcaaMc0
import Derived.Test.YtjendjbbhohjcaaMc3
import Derived.Test.YtjendjbbhohjcaaMc8
import Derived.Test.YtjendjbbhohjcaaMc10
import Derived.Test.YtjendjbbhohjcaaMc11
import Derived.Deep.AppendLies
import Derived.Deep.RegionLaw
import Derived.Deep.DrawnRows
import Derived.Deep.DeepCutAuto
import Derived.Laws.EntriesVeiled
namespace Go.Proofs.Ytjendjbbhohjcaa
open Go.RowKit

set_option maxRecDepth 100000 in
set_option maxHeartbeats 3200000 in
theorem chooses_any (A A' : Option Addr) (c c' : Nat) (p : ProgD) (S : Nat → Prop) (w : World) (hS : ∀ b, S b → b < w.heap.size) (ht : ThreadsAt w S A' p.ts) (h3 : p.ts.length ≤ 3) (hl : ∀ k, (gett p.ts k).length ≤ 1000) :
    Calls Try.prog 90 #[.agg #[.slice A p.init.length c, .slice A' p.ts.length c']] w fun e w' => e = .returned (.bool (!oneP p)) ∧ Below w.heap.size w w' := by
  obtain ⟨res, hres⟩ : ∃ res, res = !oneP p := ⟨_, rfl⟩
  rw [← hres]
  replace hres := hide hres
  obtain ⟨W, hW⟩ : ∃ x, x = w.alloc (Obj.cells #[.slice A p.init.length c, .slice A' p.ts.length c'] 37) := ⟨_, rfl⟩
  have hbW := hide (show Below w.heap.size w W from by rw [hW]; exact below1 _ _)
  have X := hide (show Blk W w.heap.size 37 #[.slice A p.init.length c, .slice A' p.ts.length c'] from by rw [hW]; exact Blk.new _ _ _)
  have x1 := X.out.cell 1
  have lx := X.out.lt
  simp only [List.getElem?_toArray, List.getElem?_cons_zero, List.getElem?_cons_succ] at x1
  replace ht := hide ht
  replace hl := hide hl
  replace hS := hide hS
  go_enter Try.func90, Try.ntmps90
  go_upto_region 1 with fail
  rw [← hW]
  clear hW
  go_wp2_with fail
  clear x1 lx X
  go_loopw [10] (fun i wr => ∃ (k : Nat), k ≤ p.ts.length ∧ i = .int .i64 k ∧ Hid (∀ j, j < k → oneL (gett p.ts j) = true) ∧ Hid (Below w.heap.size w wr)) (fun i _ => p.ts.length - (intOf i).toNat)
  case atStart => exact ⟨0, Nat.zero_le _, rfl, hide (fun j hj => by omega), hbW⟩
  case round =>
    clear hbW
    obtain ⟨k, hk, rfl, hj, hb⟩ := hrel
    by_cases hlt : k < p.ts.length
    · have hlt' : decide ((k : Int) < (p.ts.length : Int)) = true := decide_eq_true (by omega)
      obtain ⟨b, off, rfl, hbS, hc⟩ := (ht.out.below hb.out hS.out).2 (by omega)
      obtain ⟨A3, c3, hcell, -, hin⟩ := hc k hlt
      have hbl := Nat.lt_of_lt_of_le (hS.out b hbS) hb.out.size
      have hlk := hl.out k
      obtain ⟨l, hll⟩ : ∃ l, l = gett p.ts k := ⟨_, rfl⟩
      rw [← hll] at hcell hin hlk
      have hbN := below1 wr (Obj.cells #[.slice A3 l.length c3] 45)
      obtain ⟨w1, hw1⟩ : ∃ x, x = wr.alloc (Obj.cells #[.slice A3 l.length c3] 45) := ⟨_, rfl⟩
      have X := hide (show Blk w1 wr.heap.size 45 #[.slice A3 l.length c3] from by rw [hw1]; exact Blk.new _ _ _)
      have x0 := X.out.cell 0
      have lx := X.out.lt
      simp only [List.getElem?_toArray, List.getElem?_cons_zero] at x0
      rw [← hw1] at hbN
      have hin1 := hide (hin.below hbN (fun b h => Nat.lt_of_lt_of_le (hS.out b h) hb.out.size))
      have hS1 := hide (show ∀ b, S b → b < w1.heap.size from fun b h => Nat.lt_of_lt_of_le (Nat.lt_of_lt_of_le (hS.out b h) hb.out.size) hbN.size)
      have hb1 := hide (hb.out.trans (hbN.mono hb.out.size))
      replace hll := hide hll
      clear hc hin hb hbN
      go_upto_region 4 with fail
      rw [← hw1]
      clear hw1
      go_wp2_with fail
      clear x0 lx X hcell hbl
      go_loopw [17] (fun i wr => ∃ (j : Nat), j ≤ l.length ∧ i = .int .i64 j ∧ Hid (∀ i, i < j → oneD (getd l i) = true) ∧ Hid (Below w1.heap.size w1 wr)) (fun i _ => l.length - (intOf i).toNat)
      case atStart => exact ⟨0, Nat.zero_le _, rfl, hide (fun j hj => by omega), hide (Below.refl _ _)⟩
      case round =>
        obtain ⟨j, hjl, rfl, hi, hb⟩ := hrel
        by_cases hlj : j < l.length
        · have hlj' : decide ((j : Int) < (l.length : Int)) = true := decide_eq_true (by omega)
          obtain ⟨b3, off3, rfl, hb3, hc⟩ := (hin1.out.below hb.out hS1.out).2 (by omega)
          obtain ⟨c0, c1, c2, c3, c4, c5⟩ := hc j hlj
          have hbl := Nat.lt_of_lt_of_le (hS1.out b3 hb3) hb.out.size
          have hbN := below1 wr (Obj.cells #[.int .i64 (getd l j).o, .int .i64 (getd l j).r, .int .i64 (getd l j).a, .int .i64 (getd l j).b, .int .i64 (getd l j).x, .int .i64 (getd l j).n] 89)
          obtain ⟨w2, hw2⟩ : ∃ x, x = wr.alloc (Obj.cells #[.int .i64 (getd l j).o, .int .i64 (getd l j).r, .int .i64 (getd l j).a, .int .i64 (getd l j).b, .int .i64 (getd l j).x, .int .i64 (getd l j).n] 89) := ⟨_, rfl⟩
          rw [← hw2] at hbN
          have X := hide (show Blk w2 wr.heap.size 89 #[.int .i64 (getd l j).o, .int .i64 (getd l j).r, .int .i64 (getd l j).a, .int .i64 (getd l j).b, .int .i64 (getd l j).x, .int .i64 (getd l j).n] from by rw [hw2]; exact Blk.new _ _ _)
          obtain ⟨y0, y1, y2, y3, y4, y5⟩ := (show w2.cell? ⟨wr.heap.size, 0, none⟩ = some (.int .i64 (getd l j).o) ∧ w2.cell? ⟨wr.heap.size, 1, none⟩ = some (.int .i64 (getd l j).r) ∧ w2.cell? ⟨wr.heap.size, 2, none⟩ = some (.int .i64 (getd l j).a) ∧ w2.cell? ⟨wr.heap.size, 3, none⟩ = some (.int .i64 (getd l j).b) ∧ w2.cell? ⟨wr.heap.size, 4, none⟩ = some (.int .i64 (getd l j).x) ∧ w2.cell? ⟨wr.heap.size, 5, none⟩ = some (.int .i64 (getd l j).n) from ⟨X.out.cell 0, X.out.cell 1, X.out.cell 2, X.out.cell 3, X.out.cell 4, X.out.cell 5⟩)
          have lX := X.out.lt
          have hb2 := hide (hb.out.trans (hbN.mono hb.out.size))
          have hone := hide (show oneD (getd l j) = decide (countN (getd l j).o (getd l j).n ≤ 1) from rfl)
          obtain ⟨d, hd⟩ : ∃ d, d = getd l j := ⟨_, rfl⟩
          rw [← hd] at c0 c1 c2 c3 c4 c5 y0 y1 y2 y3 y4 y5 hone hw2
          replace hd := hide hd
          obtain ⟨o, r, a, bb, x, n⟩ := d
          simp only at c0 c1 c2 c3 c4 c5 y0 y1 y2 y3 y4 y5 hone hw2
          clear hc hb hbN X
          go_upto_region 7 with fail
          rw [← hw2]
          clear hw2 c0 c1 c2 c3 c4 c5 hbl
          have kc := hide (fun w => count_any o r a bb x n w)
          obtain ⟨z, hz⟩ : ∃ z, z = countN o n := ⟨_, rfl⟩
          rw [← hz] at kc hone
          clear hz
          by_cases hz1 : 1 < z
          · have hz' : decide ((1 : Int) < z) = true := decide_eq_true hz1
            have hE : res = true := by
              rw [hres.out]
              unfold oneP
              rw [allB_no hlt (by rw [← hll.out]; unfold oneL; exact allB_no hlj (by rw [← hd.out, hone.out]; exact decide_eq_false (by omega)))]
              rfl
            replace hE := hide hE
            go_wp2_with fail
            refine (kc.out _).mono ?_
            rintro e w3 ⟨rfl, hb3⟩
            have B3 := hide (hb1.out.trans ((hb2.out.trans (hb3.mono hb2.out.size)).mono hb1.out.size))
            clear y0 y1 y2 y3 y4 y5 lX
            go_wp2_with fail
            go_ret
            exact ⟨ret_bool hE.out.symm, B3.out⟩
          · have hz' : decide ((1 : Int) < z) = false := decide_eq_false hz1
            have hi2 := hide (show ∀ i, i < j + 1 → oneD (getd l i) = true from fun i hij => by
              rcases Nat.lt_or_ge i j with h | h
              · exact hi.out i h
              · obtain rfl : i = j := by omega
                rw [← hd.out, hone.out]
                exact decide_eq_true (by omega))
            go_wp2_with fail
            refine (kc.out _).mono ?_
            rintro e w3 ⟨rfl, hb3⟩
            have B3 := hide (hb2.out.trans (hb3.mono hb2.out.size))
            clear y0 y1 y2 y3 y4 y5 lX
            go_wp2_with fail
            go_roundw
            case rel => exact ⟨j + 1, by omega, by go_num, hi2, B3⟩
            case measure => simp [intOf]; omega
        · obtain rfl : j = l.length := by omega
          have hlj' : decide ((l.length : Int) < (l.length : Int)) = false := decide_eq_false (by omega)
          have hj2 := hide (show ∀ j, j < k + 1 → oneL (gett p.ts j) = true from fun j hjk => by
            rcases Nat.lt_or_ge j k with h | h
            · exact hj.out j h
            · obtain rfl : j = k := by omega
              rw [← hll.out]
              exact allB_yes hi.out)
          have B3 := hide (hb1.out.trans (hb.out.mono hb1.out.size))
          go_wp2_with fail
          go_roundw
          case rel => exact ⟨k + 1, by omega, by go_num, hj2, B3⟩
          case measure => simp [intOf]; omega
    · obtain rfl : k = p.ts.length := by omega
      have hlt' : decide ((p.ts.length : Int) < (p.ts.length : Int)) = false := decide_eq_false (by omega)
      have hE : res = false := by
        rw [hres.out]
        unfold oneP
        rw [allB_yes hj.out]
        rfl
      replace hE := hide hE
      go_wp2_with fail
      go_ret
      exact ⟨ret_bool hE.out.symm, hb.out⟩
end Go.Proofs.Ytjendjbbhohjcaa

namespace Go.Proofs.Ytjendjbbhohjcaa
open Go.RowKit

theorem Try.infoBool11 : (Try.prog.info? 4).map (fun i => (i.zero, i.size, i.bytes)) = some (some (.bool false), 1, 1) := by kernel_rfl
theorem make_flags11 (n : Nat) (hn : n ≤ 1048576) (W : World) : (Instr.makeSlice 119 (.int .i64 (n : Int)) (.int .i64 (n : Int))).run Try.prog W = .ok (.slice (some ⟨W.heap.size, 0, none⟩) n n) (W.alloc (.cells (zrow #[.bool false] n) 4)) := by
  obtain ⟨i0, hi, hz0, hz1, hz2⟩ := info_parts Try.infoBool11
  have hr := run_make (P := Try.prog) W 119 4 i0 _ Try.underlying119 hi hz0 .i64 .i64 n n (by omega) (Int.le_refl _) (by rw [hz2]; omega) (by omega)
  simp only [Int.toNat_natCast, hz1, Nat.mul_one] at hr
  exact hr
def turnV (b : Bool) (v u : Array Value) : Array Value := match b with
  | true => v
  | false => u
def flA (zs : List Int) (n k : Nat) : Array Value := ((seenF zs n k).map Value.bool).toArray
theorem flA_zero (zs : List Int) (n : Nat) : flA zs n 0 = zrow #[.bool false] n := by
  unfold flA
  rw [seenF_zero]
  apply Array.ext
  · simp [zrow, madeCells]
  · intro i h1 h2
    simp [zrow, madeCells, Nat.mod_one]
theorem flA_get (zs : List Int) (n k x : Nat) (hx : x < n) : (flA zs n k)[x]? = some (.bool (decide ((x : Int) ∈ zs.take k))) := by
  unfold flA
  rw [List.getElem?_toArray, List.getElem?_map, seenF_get zs n k x hx]
  rfl
theorem flA_succ (zs : List Int) (n k x : Nat) (hk : k < zs.length) (hx : geti zs k = x) : flA zs n (k + 1) = (flA zs n k).setIfInBounds x (.bool true) := by
  unfold flA
  rw [seenF_succ zs n k x hk hx, List.map_set]
  simp
set_option maxRecDepth 100000 in
set_option maxHeartbeats 6400000 in
theorem turnByR_any (A : Option Addr) (zs : List Int) (n c m G : Nat) (x : Value) (S : Nat → Prop) (w : World) (hz : zs.length = n) (hn63 : n ≤ 9223372036854775807) (hm : m ≤ 1048576) (hS : ∀ b, S b → b < w.heap.size) (ha : IntsAt w S A zs) :
    Calls Try.prog 59 #[.slice A n c, .int .i64 m, .func (.func G) #[x] #[]] w fun e w' => ∃ v, e = .returned (.tuple #[.agg v, .bool (orderB zs m)]) ∧ v = turnV (orderB zs m) #[.slice A n c, .func (.func G) #[x] #[]] #[.slice none 0 0, .nilFunc] ∧ Below w.heap.size w w' := by
  obtain ⟨res, hres⟩ : ∃ res, res = orderB zs m := ⟨_, rfl⟩
  rw [← hres]
  replace hres := hide hres
  obtain ⟨W, hW⟩ : ∃ x, x = w.alloc (Obj.cells #[.slice none 0 0, .nilFunc] 80) := ⟨_, rfl⟩
  have hbW : Below w.heap.size w W := by rw [hW]; exact below1 _ _
  have R := hide (show Blk W w.heap.size 80 #[.slice none 0 0, .nilFunc] from by rw [hW]; exact Blk.new _ _ _)
  have BW := hide hbW
  have hsW := hide (show w.heap.size < W.heap.size from by rw [hW]; simp)
  by_cases hnm : n = m
  · subst hnm
    have hmk := make_flags11 n hm W
    have ha1 := hide (ha.below hbW hS)
    have hSW := hide (fun b (h : S b) => (show b < W.heap.size from Nat.lt_of_lt_of_le (hS b h) hbW.size))
    have g1 := Blk.new W 4 (flA zs n 0)
    have b1 := below1 W (Obj.cells (flA zs n 0) 4)
    rw [← flA_zero zs n] at hmk
    obtain ⟨w1, hw1⟩ : ∃ x, x = W.alloc (Obj.cells (flA zs n 0) 4) := ⟨_, rfl⟩
    rw [← hw1] at hmk g1 b1
    have G1 := hide g1
    have R1 := hide (R.out.below b1 R.out.lt)
    have B1 := hide (BW.out.trans (b1.mono BW.out.size))
    have ha2 := hide (ha1.out.below b1 hSW.out)
    have hS2 := hide (fun b (h : S b) => (show b < W.heap.size from hSW.out b h))
    have hgw := hide (show w.heap.size < W.heap.size from hsW.out)
    obtain ⟨g, hg⟩ : ∃ g, g = W.heap.size := ⟨_, rfl⟩
    rw [← hg] at G1 hgw hS2 hmk
    replace hz := hide hz
    clear ha hS hbW g1 b1 ha1 hSW hsW hw1 hg
    go_enter Try.func59, Try.ntmps59
    go_upto_region 1 with fail
    rw [← hW]
    clear hW
    go_wp2_with fail
    clear hmk
    go_loopw [19] (fun i wr => ∃ k : Nat, k ≤ n ∧ i = .int .i64 k ∧ Hid (seenOk zs n k) ∧ Hid (Blk wr g 4 (flA zs n k)) ∧ Hid (Blk wr w.heap.size 80 #[.slice none 0 0, .nilFunc]) ∧ Hid (Below w.heap.size w wr) ∧ Hid (Below w1.heap.size w1 wr ∨ True) ∧ Hid (IntsAt wr S A zs)) (fun i _ => n - (intOf i).toNat)
    case atStart => exact ⟨0, Nat.zero_le _, rfl, hide (seenOk_zero _ _), G1, R1, B1, hide (.inr trivial), ha2⟩
    case round =>
      clear G1 R1 B1 ha2
      obtain ⟨k, hk, rfl, K0, G0, R0, B0, -, a0⟩ := hrel
      by_cases hlt : k < n
      · have hlt' : decide ((k : Int) < (n : Int)) = true := decide_eq_true (by omega)
        have hkn : k < n := hlt
        obtain ⟨b, off, rfl, hbS, hc⟩ := a0.out.2 (by rw [hz.out]; omega)
        have hcell := hc k (by rw [hz.out]; exact hlt)
        have hout := hide (fun h => order_out (l := zs) (n := n) (k := k) (by rw [hz.out]; exact hlt) h)
        have hagain := hide (fun h => order_again (l := zs) (n := n) (k := k) (by rw [hz.out]; exact hlt) h)
        have hnext := hide (fun h0 h1 => seenOk_succ K0.out (by rw [hz.out]; exact hlt) h0 h1)
        have hset := hide (fun x h => flA_succ zs n k x (by rw [hz.out]; exact hlt) h)
        obtain ⟨z, hzz⟩ : ∃ z, z = geti zs k := ⟨_, rfl⟩
        rw [← hzz] at hcell hout hagain hnext hset
        clear hc hzz
        by_cases h0 : z < 0
        · have hE := hide (show res = false from by rw [hres.out]; exact hout.out (by omega))
          have h0' : decide (z < 0) = true := decide_eq_true h0
          obtain ⟨r0, r1⟩ := (show wr.cell? ⟨w.heap.size, 0, none⟩ = some (.slice none 0 0) ∧ wr.cell? ⟨w.heap.size, 1, none⟩ = some .nilFunc from ⟨R0.out.cell 0, R0.out.cell 1⟩)
          obtain ⟨r2, r3⟩ := (show wr.frozen? ⟨w.heap.size, 0, none⟩ = false ∧ wr.frozen? ⟨w.heap.size, 1, none⟩ = false from ⟨R0.out.frozen 0, R0.out.frozen 1⟩)
          have lR := R0.out.lt
          go_wp2_with fail
          refine bodyPost_ret (v := .tuple #[.agg #[.slice none 0 0, .nilFunc], .bool false]) (by simp [results, Try.results59, go_sem, r0, r1]; done) rfl ?_
          rw [hE.out]
          exact ⟨_, rfl, rfl, (B0.out.setCell (p := ⟨w.heap.size, 0, none⟩) (Nat.le_refl _) _).setCell (p := ⟨w.heap.size, 1, none⟩) (Nat.le_refl _) _⟩
        · have h0' : decide (z < 0) = false := decide_eq_false h0
          by_cases h1 : (n : Int) ≤ z
          · have hE := hide (show res = false from by rw [hres.out]; exact hout.out (by omega))
            have h1' : decide ((n : Int) ≤ z) = true := decide_eq_true h1
            obtain ⟨r0, r1⟩ := (show wr.cell? ⟨w.heap.size, 0, none⟩ = some (.slice none 0 0) ∧ wr.cell? ⟨w.heap.size, 1, none⟩ = some .nilFunc from ⟨R0.out.cell 0, R0.out.cell 1⟩)
            obtain ⟨r2, r3⟩ := (show wr.frozen? ⟨w.heap.size, 0, none⟩ = false ∧ wr.frozen? ⟨w.heap.size, 1, none⟩ = false from ⟨R0.out.frozen 0, R0.out.frozen 1⟩)
            have lR := R0.out.lt
            go_wp2_with fail
            refine bodyPost_ret (v := .tuple #[.agg #[.slice none 0 0, .nilFunc], .bool false]) (by simp [results, Try.results59, go_sem, r0, r1]; done) rfl ?_
            rw [hE.out]
            exact ⟨_, rfl, rfl, (B0.out.setCell (p := ⟨w.heap.size, 0, none⟩) (Nat.le_refl _) _).setCell (p := ⟨w.heap.size, 1, none⟩) (Nat.le_refl _) _⟩
          · have h1' : decide ((n : Int) ≤ z) = false := decide_eq_false h1
            obtain ⟨y, rfl⟩ : ∃ y : Nat, z = (y : Int) := ⟨z.toNat, by omega⟩
            have hyn : y < n := by omega
            have hyn' : (y : Int) < (n : Int) := by omega
            have f0 := (G0.out.cell y).trans (flA_get zs n k y hyn)
            have f1 := G0.out.frozen y
            have fl := G0.out.lt
            cases hb : decide ((y : Int) ∈ zs.take k)
            · rw [hb] at f0
              have K1 := hide (hnext.out ⟨by omega, by omega⟩ (of_decide_eq_false hb))
              have G2 := hide (show Blk (wr.setCell ⟨g, y, none⟩ (.bool true)) g 4 (flA zs n (k + 1)) from by
                rw [hset.out y rfl]
                exact G0.out.set_ y (.bool true))
              have R2 := hide (R0.out.far (p := ⟨g, y, none⟩) (by have := hgw.out; show w.heap.size ≠ g; omega) (.bool true))
              have B2 := hide (B0.out.setCell (p := ⟨g, y, none⟩) (by have := hgw.out; show w.heap.size ≤ g; omega) (.bool true))
              have a2 := hide (show IntsAt (wr.setCell ⟨g, y, none⟩ (.bool true)) S (some ⟨b, off, none⟩) zs from a0.out.set (p := ⟨g, y, none⟩) (.bool true) (fun h => Nat.lt_irrefl _ (hS2.out _ h)))
              clear hb K0 hnext hset hagain hout hres
              go_wp2_with fail
              go_roundw
              case rel => exact ⟨k + 1, by omega, by go_num, K1, G2, R2, B2, hide (.inr trivial), a2⟩
              case measure => simp [intOf]; omega
            · rw [hb] at f0
              have hE := hide (show res = false from by rw [hres.out]; exact hagain.out (of_decide_eq_true hb))
              clear hb
              obtain ⟨r0, r1⟩ := (show wr.cell? ⟨w.heap.size, 0, none⟩ = some (.slice none 0 0) ∧ wr.cell? ⟨w.heap.size, 1, none⟩ = some .nilFunc from ⟨R0.out.cell 0, R0.out.cell 1⟩)
              obtain ⟨r2, r3⟩ := (show wr.frozen? ⟨w.heap.size, 0, none⟩ = false ∧ wr.frozen? ⟨w.heap.size, 1, none⟩ = false from ⟨R0.out.frozen 0, R0.out.frozen 1⟩)
              have lR := R0.out.lt
              go_wp2_with fail
              refine bodyPost_ret (v := .tuple #[.agg #[.slice none 0 0, .nilFunc], .bool false]) (by simp [results, Try.results59, go_sem, r0, r1]; done) rfl ?_
              rw [hE.out]
              exact ⟨_, rfl, rfl, (B0.out.setCell (p := ⟨w.heap.size, 0, none⟩) (Nat.le_refl _) _).setCell (p := ⟨w.heap.size, 1, none⟩) (Nat.le_refl _) _⟩
      · obtain rfl : k = n := by omega
        have hlt' : decide ((k : Int) < (k : Int)) = false := decide_eq_false (by omega)
        have hE := hide (show res = true from by rw [hres.out]; exact seenOk_all hz.out K0.out)
        obtain ⟨r0, r1⟩ := (show wr.cell? ⟨w.heap.size, 0, none⟩ = some (.slice none 0 0) ∧ wr.cell? ⟨w.heap.size, 1, none⟩ = some .nilFunc from ⟨R0.out.cell 0, R0.out.cell 1⟩)
        obtain ⟨r2, r3⟩ := (show wr.frozen? ⟨w.heap.size, 0, none⟩ = false ∧ wr.frozen? ⟨w.heap.size, 1, none⟩ = false from ⟨R0.out.frozen 0, R0.out.frozen 1⟩)
        have lR := R0.out.lt
        go_wp2_with fail
        refine bodyPost_ret (v := .tuple #[.agg #[.slice A k c, .func (.func G) #[x] #[]], .bool true]) (by simp [results, Try.results59, go_sem, r0, r1]; done) rfl ?_
        rw [hE.out]
        exact ⟨_, rfl, rfl, (B0.out.setCell (p := ⟨w.heap.size, 0, none⟩) (Nat.le_refl _) _).setCell (p := ⟨w.heap.size, 1, none⟩) (Nat.le_refl _) _⟩
  · have hE := hide (show res = false from by rw [hres.out]; exact order_len (by rw [hz]; exact hnm))
    have hne : ((n : Int) != (m : Int)) = true := by simp; omega
    clear hz ha hS hnm hbW hsW
    go_enter Try.func59, Try.ntmps59
    go_upto_region 1 with fail
    rw [← hW]
    clear hW
    obtain ⟨r0, r1⟩ := (show W.cell? ⟨w.heap.size, 0, none⟩ = some (.slice none 0 0) ∧ W.cell? ⟨w.heap.size, 1, none⟩ = some .nilFunc from ⟨R.out.cell 0, R.out.cell 1⟩)
    obtain ⟨r2, r3⟩ := (show W.frozen? ⟨w.heap.size, 0, none⟩ = false ∧ W.frozen? ⟨w.heap.size, 1, none⟩ = false from ⟨R.out.frozen 0, R.out.frozen 1⟩)
    have lR := R.out.lt
    go_wp2_with fail
    refine bodyPost_ret (v := .tuple #[.agg #[.slice none 0 0, .nilFunc], .bool false]) (by simp [results, Try.results59, go_sem, r0, r1]; done) rfl ?_
    rw [hE.out]
    exact ⟨_, rfl, rfl, (BW.out.setCell (p := ⟨w.heap.size, 0, none⟩) (Nat.le_refl _) _).setCell (p := ⟨w.heap.size, 1, none⟩) (Nat.le_refl _) _⟩
end Go.Proofs.Ytjendjbbhohjcaa

namespace Go.Proofs.Ytjendjbbhohjcaa
open Go.RowKit

set_option maxRecDepth 100000 in
set_option maxHeartbeats 6400000 in
theorem turnByT_any (A : Option Addr) (zs : List Int) (n c m G : Nat) (x : Value) (S : Nat → Prop) (w : World) (hz : zs.length = n) (hn63 : n ≤ 9223372036854775807) (hm : m ≤ 1048576) (hS : ∀ b, S b → b < w.heap.size) (ha : IntsAt w S A zs) :
    Calls Try.prog 83 #[.slice A n c, .int .i64 m, .func (.func G) #[x] #[]] w fun e w' => ∃ v, e = .returned (.tuple #[.agg v, .bool (orderB zs m)]) ∧ v = turnV (orderB zs m) #[.slice A n c, .func (.func G) #[x] #[]] #[.slice none 0 0, .nilFunc] ∧ Below w.heap.size w w' := by
  obtain ⟨res, hres⟩ : ∃ res, res = orderB zs m := ⟨_, rfl⟩
  rw [← hres]
  replace hres := hide hres
  obtain ⟨W, hW⟩ : ∃ x, x = w.alloc (Obj.cells #[.slice none 0 0, .nilFunc] 101) := ⟨_, rfl⟩
  have hbW : Below w.heap.size w W := by rw [hW]; exact below1 _ _
  have R := hide (show Blk W w.heap.size 101 #[.slice none 0 0, .nilFunc] from by rw [hW]; exact Blk.new _ _ _)
  have BW := hide hbW
  have hsW := hide (show w.heap.size < W.heap.size from by rw [hW]; simp)
  by_cases hnm : n = m
  · subst hnm
    have hmk := make_flags11 n hm W
    have ha1 := hide (ha.below hbW hS)
    have hSW := hide (fun b (h : S b) => (show b < W.heap.size from Nat.lt_of_lt_of_le (hS b h) hbW.size))
    have g1 := Blk.new W 4 (flA zs n 0)
    have b1 := below1 W (Obj.cells (flA zs n 0) 4)
    rw [← flA_zero zs n] at hmk
    obtain ⟨w1, hw1⟩ : ∃ x, x = W.alloc (Obj.cells (flA zs n 0) 4) := ⟨_, rfl⟩
    rw [← hw1] at hmk g1 b1
    have G1 := hide g1
    have R1 := hide (R.out.below b1 R.out.lt)
    have B1 := hide (BW.out.trans (b1.mono BW.out.size))
    have ha2 := hide (ha1.out.below b1 hSW.out)
    have hS2 := hide (fun b (h : S b) => (show b < W.heap.size from hSW.out b h))
    have hgw := hide (show w.heap.size < W.heap.size from hsW.out)
    obtain ⟨g, hg⟩ : ∃ g, g = W.heap.size := ⟨_, rfl⟩
    rw [← hg] at G1 hgw hS2 hmk
    replace hz := hide hz
    clear ha hS hbW g1 b1 ha1 hSW hsW hw1 hg
    go_enter Try.func83, Try.ntmps83
    go_upto_region 1 with fail
    rw [← hW]
    clear hW
    go_wp2_with fail
    clear hmk
    go_loopw [19] (fun i wr => ∃ k : Nat, k ≤ n ∧ i = .int .i64 k ∧ Hid (seenOk zs n k) ∧ Hid (Blk wr g 4 (flA zs n k)) ∧ Hid (Blk wr w.heap.size 101 #[.slice none 0 0, .nilFunc]) ∧ Hid (Below w.heap.size w wr) ∧ Hid (Below w1.heap.size w1 wr ∨ True) ∧ Hid (IntsAt wr S A zs)) (fun i _ => n - (intOf i).toNat)
    case atStart => exact ⟨0, Nat.zero_le _, rfl, hide (seenOk_zero _ _), G1, R1, B1, hide (.inr trivial), ha2⟩
    case round =>
      clear G1 R1 B1 ha2
      obtain ⟨k, hk, rfl, K0, G0, R0, B0, -, a0⟩ := hrel
      by_cases hlt : k < n
      · have hlt' : decide ((k : Int) < (n : Int)) = true := decide_eq_true (by omega)
        have hkn : k < n := hlt
        obtain ⟨b, off, rfl, hbS, hc⟩ := a0.out.2 (by rw [hz.out]; omega)
        have hcell := hc k (by rw [hz.out]; exact hlt)
        have hout := hide (fun h => order_out (l := zs) (n := n) (k := k) (by rw [hz.out]; exact hlt) h)
        have hagain := hide (fun h => order_again (l := zs) (n := n) (k := k) (by rw [hz.out]; exact hlt) h)
        have hnext := hide (fun h0 h1 => seenOk_succ K0.out (by rw [hz.out]; exact hlt) h0 h1)
        have hset := hide (fun x h => flA_succ zs n k x (by rw [hz.out]; exact hlt) h)
        obtain ⟨z, hzz⟩ : ∃ z, z = geti zs k := ⟨_, rfl⟩
        rw [← hzz] at hcell hout hagain hnext hset
        clear hc hzz
        by_cases h0 : z < 0
        · have hE := hide (show res = false from by rw [hres.out]; exact hout.out (by omega))
          have h0' : decide (z < 0) = true := decide_eq_true h0
          obtain ⟨r0, r1⟩ := (show wr.cell? ⟨w.heap.size, 0, none⟩ = some (.slice none 0 0) ∧ wr.cell? ⟨w.heap.size, 1, none⟩ = some .nilFunc from ⟨R0.out.cell 0, R0.out.cell 1⟩)
          obtain ⟨r2, r3⟩ := (show wr.frozen? ⟨w.heap.size, 0, none⟩ = false ∧ wr.frozen? ⟨w.heap.size, 1, none⟩ = false from ⟨R0.out.frozen 0, R0.out.frozen 1⟩)
          have lR := R0.out.lt
          go_wp2_with fail
          refine bodyPost_ret (v := .tuple #[.agg #[.slice none 0 0, .nilFunc], .bool false]) (by simp [results, Try.results83, go_sem, r0, r1]; done) rfl ?_
          rw [hE.out]
          exact ⟨_, rfl, rfl, (B0.out.setCell (p := ⟨w.heap.size, 0, none⟩) (Nat.le_refl _) _).setCell (p := ⟨w.heap.size, 1, none⟩) (Nat.le_refl _) _⟩
        · have h0' : decide (z < 0) = false := decide_eq_false h0
          by_cases h1 : (n : Int) ≤ z
          · have hE := hide (show res = false from by rw [hres.out]; exact hout.out (by omega))
            have h1' : decide ((n : Int) ≤ z) = true := decide_eq_true h1
            obtain ⟨r0, r1⟩ := (show wr.cell? ⟨w.heap.size, 0, none⟩ = some (.slice none 0 0) ∧ wr.cell? ⟨w.heap.size, 1, none⟩ = some .nilFunc from ⟨R0.out.cell 0, R0.out.cell 1⟩)
            obtain ⟨r2, r3⟩ := (show wr.frozen? ⟨w.heap.size, 0, none⟩ = false ∧ wr.frozen? ⟨w.heap.size, 1, none⟩ = false from ⟨R0.out.frozen 0, R0.out.frozen 1⟩)
            have lR := R0.out.lt
            go_wp2_with fail
            refine bodyPost_ret (v := .tuple #[.agg #[.slice none 0 0, .nilFunc], .bool false]) (by simp [results, Try.results83, go_sem, r0, r1]; done) rfl ?_
            rw [hE.out]
            exact ⟨_, rfl, rfl, (B0.out.setCell (p := ⟨w.heap.size, 0, none⟩) (Nat.le_refl _) _).setCell (p := ⟨w.heap.size, 1, none⟩) (Nat.le_refl _) _⟩
          · have h1' : decide ((n : Int) ≤ z) = false := decide_eq_false h1
            obtain ⟨y, rfl⟩ : ∃ y : Nat, z = (y : Int) := ⟨z.toNat, by omega⟩
            have hyn : y < n := by omega
            have hyn' : (y : Int) < (n : Int) := by omega
            have f0 := (G0.out.cell y).trans (flA_get zs n k y hyn)
            have f1 := G0.out.frozen y
            have fl := G0.out.lt
            cases hb : decide ((y : Int) ∈ zs.take k)
            · rw [hb] at f0
              have K1 := hide (hnext.out ⟨by omega, by omega⟩ (of_decide_eq_false hb))
              have G2 := hide (show Blk (wr.setCell ⟨g, y, none⟩ (.bool true)) g 4 (flA zs n (k + 1)) from by
                rw [hset.out y rfl]
                exact G0.out.set_ y (.bool true))
              have R2 := hide (R0.out.far (p := ⟨g, y, none⟩) (by have := hgw.out; show w.heap.size ≠ g; omega) (.bool true))
              have B2 := hide (B0.out.setCell (p := ⟨g, y, none⟩) (by have := hgw.out; show w.heap.size ≤ g; omega) (.bool true))
              have a2 := hide (show IntsAt (wr.setCell ⟨g, y, none⟩ (.bool true)) S (some ⟨b, off, none⟩) zs from a0.out.set (p := ⟨g, y, none⟩) (.bool true) (fun h => Nat.lt_irrefl _ (hS2.out _ h)))
              clear hb K0 hnext hset hagain hout hres
              go_wp2_with fail
              go_roundw
              case rel => exact ⟨k + 1, by omega, by go_num, K1, G2, R2, B2, hide (.inr trivial), a2⟩
              case measure => simp [intOf]; omega
            · rw [hb] at f0
              have hE := hide (show res = false from by rw [hres.out]; exact hagain.out (of_decide_eq_true hb))
              clear hb
              obtain ⟨r0, r1⟩ := (show wr.cell? ⟨w.heap.size, 0, none⟩ = some (.slice none 0 0) ∧ wr.cell? ⟨w.heap.size, 1, none⟩ = some .nilFunc from ⟨R0.out.cell 0, R0.out.cell 1⟩)
              obtain ⟨r2, r3⟩ := (show wr.frozen? ⟨w.heap.size, 0, none⟩ = false ∧ wr.frozen? ⟨w.heap.size, 1, none⟩ = false from ⟨R0.out.frozen 0, R0.out.frozen 1⟩)
              have lR := R0.out.lt
              go_wp2_with fail
              refine bodyPost_ret (v := .tuple #[.agg #[.slice none 0 0, .nilFunc], .bool false]) (by simp [results, Try.results83, go_sem, r0, r1]; done) rfl ?_
              rw [hE.out]
              exact ⟨_, rfl, rfl, (B0.out.setCell (p := ⟨w.heap.size, 0, none⟩) (Nat.le_refl _) _).setCell (p := ⟨w.heap.size, 1, none⟩) (Nat.le_refl _) _⟩
      · obtain rfl : k = n := by omega
        have hlt' : decide ((k : Int) < (k : Int)) = false := decide_eq_false (by omega)
        have hE := hide (show res = true from by rw [hres.out]; exact seenOk_all hz.out K0.out)
        obtain ⟨r0, r1⟩ := (show wr.cell? ⟨w.heap.size, 0, none⟩ = some (.slice none 0 0) ∧ wr.cell? ⟨w.heap.size, 1, none⟩ = some .nilFunc from ⟨R0.out.cell 0, R0.out.cell 1⟩)
        obtain ⟨r2, r3⟩ := (show wr.frozen? ⟨w.heap.size, 0, none⟩ = false ∧ wr.frozen? ⟨w.heap.size, 1, none⟩ = false from ⟨R0.out.frozen 0, R0.out.frozen 1⟩)
        have lR := R0.out.lt
        go_wp2_with fail
        refine bodyPost_ret (v := .tuple #[.agg #[.slice A k c, .func (.func G) #[x] #[]], .bool true]) (by simp [results, Try.results83, go_sem, r0, r1]; done) rfl ?_
        rw [hE.out]
        exact ⟨_, rfl, rfl, (B0.out.setCell (p := ⟨w.heap.size, 0, none⟩) (Nat.le_refl _) _).setCell (p := ⟨w.heap.size, 1, none⟩) (Nat.le_refl _) _⟩
  · have hE := hide (show res = false from by rw [hres.out]; exact order_len (by rw [hz]; exact hnm))
    have hne : ((n : Int) != (m : Int)) = true := by simp; omega
    clear hz ha hS hnm hbW hsW
    go_enter Try.func83, Try.ntmps83
    go_upto_region 1 with fail
    rw [← hW]
    clear hW
    obtain ⟨r0, r1⟩ := (show W.cell? ⟨w.heap.size, 0, none⟩ = some (.slice none 0 0) ∧ W.cell? ⟨w.heap.size, 1, none⟩ = some .nilFunc from ⟨R.out.cell 0, R.out.cell 1⟩)
    obtain ⟨r2, r3⟩ := (show W.frozen? ⟨w.heap.size, 0, none⟩ = false ∧ W.frozen? ⟨w.heap.size, 1, none⟩ = false from ⟨R.out.frozen 0, R.out.frozen 1⟩)
    have lR := R.out.lt
    go_wp2_with fail
    refine bodyPost_ret (v := .tuple #[.agg #[.slice none 0 0, .nilFunc], .bool false]) (by simp [results, Try.results83, go_sem, r0, r1]; done) rfl ?_
    rw [hE.out]
    exact ⟨_, rfl, rfl, (BW.out.setCell (p := ⟨w.heap.size, 0, none⟩) (Nat.le_refl _) _).setCell (p := ⟨w.heap.size, 1, none⟩) (Nat.le_refl _) _⟩
end Go.Proofs.Ytjendjbbhohjcaa

namespace Go.Proofs.Ytjendjbbhohjcaa
open Go.RowKit

set_option maxRecDepth 100000 in
set_option maxHeartbeats 1600000 in
theorem cloneInts_any (A : Option Addr) (zs : List Int) (n c : Nat) (w : World) (hn : zs.length = n) (hz2 : n ≤ 1048576) (hS : IntsAt w (Old w.heap.size) A zs) :
    Calls Try.prog 85 #[.slice A n c] w fun e w' => RowO 3 1 w w' e n zs := by
  rcases A with _ | ad
  · have hz : zs = [] := by
      rcases Nat.eq_zero_or_pos zs.length with h | h
      · exact List.eq_nil_of_length_eq_zero h
      · obtain ⟨b, off, e, _⟩ := hS.2 h
        cases e
    subst hz
    obtain rfl : n = 0 := by simpa using hn.symm
    clear hn hS
    have he : ∀ w : World, (binOp .eql 23 (.slice none 0 c) (.slice none 0 0)).run Try.prog w = .ok (.bool true) w := fun _ => by kernel_rfl
    go_enter Try.func85, Try.ntmps85
    go_wp2
    go_ret
    exact ⟨none, 0, rfl, ⟨rfl, .inl ⟨rfl, rfl⟩⟩, Below.refl _ _⟩
  · obtain ⟨i1, hi1, hy0, hy1, hy2⟩ := info_parts Try.infoInt
    have hb0 := below1 w (Obj.cells #[] 3)
    have hsrc := hide (hS.below hb0 (fun _ h => h))
    clear hS
    replace hn := hide hn
    have he : ∀ w : World, (binOp .eql 23 (.slice (some ad) n c) (.slice none 0 0)).run Try.prog w = .ok (.bool false) w := fun _ => by kernel_rfl
    go_enter Try.func85, Try.ntmps85
    go_wp2_with (at_builtin; refine wpList_append_src _ rfl _ _ _ rfl w.heap.size 3 i1 _ 1 8 Try.underlying23 hi1 hy0 hy1 hy2 rfl (by omega) (.slice (some ⟨w.heap.size, 0, none⟩) 0 0) 0 [] rfl (own_row (Nat.le_refl _) (by omega) rfl) (Old w.heap.size) (some ad) n c zs rfl (by rw [hn.out]; simp) hsrc.out (by have : maxLen = 9223372036854775807 := rfl; omega) (by omega) (by simp) ?_)
    intro A' c' w2 hown hgr hat
    go_wp2_with fail
    go_ret
    exact ⟨A', c', by simp, hown, hb0.trans (below_own hgr (fun k hk => by simp [Value.ownBlock]; omega) (by simp))⟩

end Go.Proofs.Ytjendjbbhohjcaa
