/- slices.Clone of numbers. -/
import Derived.Test.YtjendjbbhohjcaaMn0
import Derived.Test.YtjendjbbhohjcaaMn3
import Derived.Test.YtjendjbbhohjcaaMn8
import Derived.Test.YtjendjbbhohjcaaMn9
import Derived.Deep.AppendLies
import Derived.Deep.RegionLaw
import Derived.Deep.DrawnRows
import Derived.Deep.DeepCutAuto
import Derived.Laws.EntriesVeiled
namespace Go.Proofs.Ytjendjbbhohjcaa
open Go.RowKit

theorem gett_put (ts : List (List InsD)) (t k : Nat) (l : List InsD) (ht : t < ts.length) : gett (ts.set t l) k = if k = t then l else gett ts k := by
  unfold gett
  rw [List.getD_eq_getElem?_getD, List.getD_eq_getElem?_getD, List.getElem?_set]
  by_cases e : k = t
  · subst e; simp [ht]
  · rw [if_neg (fun h => e h.symm), if_neg e]
theorem vat_put (vs : List Value) (t k : Nat) (u : Value) (ht : t < vs.length) : vat (vs.set t u) k = if k = t then u else vat vs k := by
  unfold vat
  rw [List.getD_eq_getElem?_getD, List.getD_eq_getElem?_getD, List.getElem?_set]
  by_cases e : k = t
  · subst e; simp [ht]
  · rw [if_neg (fun h => e h.symm), if_neg e]
theorem rows_put {w : World} {B b c n : Nat} {vs : List Value} (h : w.ownsRow B 45 1 (.slice (some ⟨b, 0, none⟩) n c) n vs) (t : Nat) (u : Value) :
    (w.setCell ⟨b, t, none⟩ u).ownsRow B 45 1 (.slice (some ⟨b, 0, none⟩) n c) n (vs.set t u) := by
  rcases h.2 with ⟨hv, _⟩ | ⟨q', cap, cur, hv, hb, hh, hcap, hmax, hcs, ht⟩
  · cases hv
  · cases hv
    refine ⟨by rw [List.length_set]; exact h.1, .inr ⟨b, c, cur.setIfInBounds t u, rfl, hb, Blk.set_ (t := 45) (cs := cur) hh t u, hcap, hmax, by simpa using hcs, ?_⟩⟩
    rw [← ht]
    simp [List.take_set]
theorem ProgOwn.putThr {w w1 : World} {B b c cl : Nat} {A : Option Addr} {zs : List Int} {v : Value} {ts : List (List InsD)} {vs : List Value} {l : List InsD} (h : ProgOwn w B zs v ts vs (.slice (some ⟨b, 0, none⟩) ts.length c)) (hB : B ≤ w.heap.size) {t : Nat} (ht : t < ts.length)
    (hb : Below w.heap.size w w1) (ho : w1.ownsRow w.heap.size 89 6 (.slice A l.length cl) l.length (flat l)) :
    ProgOwn (w1.setCell ⟨b, t, none⟩ (.slice A l.length cl)) B zs v (ts.set t l) (vs.set t (.slice A l.length cl)) (.slice (some ⟨b, 0, none⟩) ts.length c) := by
  have hvl := h.len
  have h1 := h.keep (w1 := w1) (fun b _ hlt => hb.block b hlt)
  have hbb : (Value.slice (some ⟨b, 0, none⟩) ts.length c).ownBlock = some b := rfl
  have ho1 := own_base ho hB
  refine ⟨own_setFar h1.ints (fun e => apart_type h1.rows h1.ints (by decide) b hbb e) _, ?_, fun k hk => ?_, fun j k hjk hk => ?_⟩
  · rw [List.length_set]
    exact rows_put h1.rows t _
  · rw [List.length_set] at hk
    rw [gett_put ts t k _ ht, vat_put vs t k _ (by omega)]
    by_cases e : k = t
    · rw [if_pos e, if_pos e]
      exact own_setFar ho1 (fun e => apart_type h1.rows ho1 (by decide) b hbb e) _
    · rw [if_neg e, if_neg e]
      exact own_setFar (h1.thr k hk) (fun e => apart_type h1.rows (h1.thr k hk) (by decide) b hbb e) _
  · rw [List.length_set] at hk
    rw [vat_put vs t j _ (by omega), vat_put vs t k _ (by omega)]
    have fresh : ∀ k, k < ts.length → Apart (vat vs k) (.slice A l.length cl) := fun k hk => apart_new (h.thr k hk) ho (Nat.le_refl _)
    by_cases e1 : j = t
    · rw [if_pos e1, if_neg (show k ≠ t by omega)]
      exact (fresh k hk).symm
    · rw [if_neg e1]
      by_cases e2 : k = t
      · rw [if_pos e2]
        exact fresh j (by omega)
      · rw [if_neg e2]
        exact h.apart j k hjk hk
theorem CrAt.putThr {w0 w w1 : World} {T b c cl m : Nat} {A : Option Addr} {zs : List Int} {v : Value} {ts : List (List InsD)} {vs : List Value} {l : List InsD} (h : CrAt w0 T zs v ts vs (.slice (some ⟨b, 0, none⟩) m c) w) (hm : ts.length = m) {t : Nat} (ht : t < m)
    (hb : Below w.heap.size w w1) (ho : w1.ownsRow w.heap.size 89 6 (.slice A l.length cl) l.length (flat l)) :
    (w1.cell? ⟨b, t, none⟩ = some (vat vs t) ∧ w1.frozen? ⟨b, t, none⟩ = false) ∧ CrAt w0 T zs v (ts.set t l) (vs.set t (.slice A l.length cl)) (.slice (some ⟨b, 0, none⟩) m c) (w1.setCell ⟨b, t, none⟩ (.slice A l.length cl)) := by
  subst hm
  have h1 := h.next hb
  have hbb : (Value.slice (some ⟨b, 0, none⟩) ts.length c).ownBlock = some b := rfl
  obtain ⟨hb0, hb1, cur, hbc⟩ := own_lt h1.own.rows hbb
  have hbT : T ≠ b := fun e => blk_far h1.blk h1.own.rows (by decide) (by rw [hbb, e])
  have hlo := h.lo
  have hT := h.blk.lt
  exact ⟨⟨rows_cell h1.own.rows ht, Blk.frozen (t := 45) (cs := cur) hbc t⟩, ⟨h1.below.setCell (by show w0.heap.size ≤ b; omega) _, h1.blk.far (by show T ≠ b; exact hbT) _, h.own.putThr (by omega) ht hb ho, h.lo, h1.out.imp fun _ => Exists.imp fun _ k => Blk.far k (by show w0.heap.size ≠ b; omega) _⟩⟩

theorem CrAt.start2 {W0 w1 w2 : World} {zs : List Int} {v tv : Value} {ts : List (List InsD)} {vs : List Value} (h1 : Below W0.heap.size W0 w1) (hs : W0.heap.size < w1.heap.size) (hR : Blk w1 W0.heap.size 37 #[.slice none 0 0, .slice none 0 0]) (h2 : Below w1.heap.size w1 w2) (ho : ProgOwn w2 w1.heap.size zs v ts vs tv) :
    CrAt W0 w2.heap.size zs v ts vs tv (w2.alloc (.cells #[v, tv] 37)) := by
  have h3 := h1.trans (h2.mono h1.size)
  have h4 := h2.size
  have h5 := h1.size
  exact ⟨h3.alloc h3.size _, Blk.new _ _ _, (ho.base (by omega)).keep (fun b _ hlt => Below.heap_alloc _ _ b hlt), by omega, _, _, (hR.below h2 hR.lt).alloc _⟩

def mixTs (ts : List (List InsD)) (zs : List Int) (k : Nat) : List (List InsD) := turnTs ts zs k ++ ts.drop k
theorem mixTs_0 (ts : List (List InsD)) (zs : List Int) : mixTs ts zs 0 = ts := rfl
theorem mixTs_len (ts : List (List InsD)) (zs : List Int) (k : Nat) (h : k ≤ ts.length) : (mixTs ts zs k).length = ts.length := by simp [mixTs, turnTs_len]; omega
theorem mixTs_all (ts : List (List InsD)) (zs : List Int) : mixTs ts zs ts.length = turnTs ts zs ts.length := by simp [mixTs]
theorem mixTs_succ (ts : List (List InsD)) (zs : List Int) (k : Nat) (h : k < ts.length) : mixTs ts zs (k + 1) = (mixTs ts zs k).set k (gett ts (geti zs k).toNat) := by
  unfold mixTs
  rw [turnTs_succ, List.set_append, if_neg (by rw [turnTs_len]; omega), turnTs_len, Nat.sub_self, List.append_assoc]
  rw [List.drop_eq_getElem_cons h]
  rfl
end Go.Proofs.Ytjendjbbhohjcaa

namespace Go.Proofs.Ytjendjbbhohjcaa
open Go.RowKit

theorem Try.infoBool11 : (Try.prog.info? 4).map (fun i => (i.zero, i.size, i.bytes)) = some (some (.bool false), 1, 1) := by kernel_rfl
theorem make_flags11 (n : Nat) (hn : n ≤ 1048576) (W : World) : (Instr.makeSlice 119 (.int .i64 (n : Int)) (.int .i64 (n : Int))).run Try.prog W = .ok (.slice (some ⟨W.heap.size, 0, none⟩) n n) (W.alloc (.cells (zrow #[.bool false] n) 4)) := by
  obtain ⟨i0, hi, hz0, hz1, hz2⟩ := info_parts Try.infoBool11
  have hr := run_make (P := Try.prog) W 119 4 i0 _ Try.underlying119 hi hz0 .i64 .i64 n n (by omega) (Int.le_refl _) (by rw [hz2]; omega) (by omega)
  simp only [Int.toNat_natCast, hz1, Nat.mul_one] at hr
  exact hr
def turnV (b : Bool) (v u : Array Value) : Array Value := match b with
  | true => v
  | false => u
def flA (zs : List Int) (n k : Nat) : Array Value := ((seenF zs n k).map Value.bool).toArray
theorem flA_zero (zs : List Int) (n : Nat) : flA zs n 0 = zrow #[.bool false] n := by
  unfold flA
  rw [seenF_zero]
  apply Array.ext
  · simp [zrow, madeCells]
  · intro i h1 h2
    simp [zrow, madeCells, Nat.mod_one]
theorem flA_get (zs : List Int) (n k x : Nat) (hx : x < n) : (flA zs n k)[x]? = some (.bool (decide ((x : Int) ∈ zs.take k))) := by
  unfold flA
  rw [List.getElem?_toArray, List.getElem?_map, seenF_get zs n k x hx]
  rfl
theorem flA_succ (zs : List Int) (n k x : Nat) (hk : k < zs.length) (hx : geti zs k = x) : flA zs n (k + 1) = (flA zs n k).setIfInBounds x (.bool true) := by
  unfold flA
  rw [seenF_succ zs n k x hk hx, List.map_set]
  simp
set_option maxRecDepth 100000 in
set_option maxHeartbeats 6400000 in
theorem turnByR_any (A : Option Addr) (zs : List Int) (n c m G : Nat) (x : Value) (S : Nat → Prop) (w : World) (hz : zs.length = n) (hn63 : n ≤ 9223372036854775807) (hm : m ≤ 1048576) (hS : ∀ b, S b → b < w.heap.size) (ha : IntsAt w S A zs) :
    Calls Try.prog 59 #[.slice A n c, .int .i64 m, .func (.func G) #[x] #[]] w fun e w' => ∃ v, e = .returned (.tuple #[.agg v, .bool (orderB zs m)]) ∧ v = turnV (orderB zs m) #[.slice A n c, .func (.func G) #[x] #[]] #[.slice none 0 0, .nilFunc] ∧ Below w.heap.size w w' := by
  obtain ⟨res, hres⟩ : ∃ res, res = orderB zs m := ⟨_, rfl⟩
  rw [← hres]
  replace hres := hide hres
  obtain ⟨W, hW⟩ : ∃ x, x = w.alloc (Obj.cells #[.slice none 0 0, .nilFunc] 80) := ⟨_, rfl⟩
  have hbW : Below w.heap.size w W := by rw [hW]; exact below1 _ _
  have R := hide (show Blk W w.heap.size 80 #[.slice none 0 0, .nilFunc] from by rw [hW]; exact Blk.new _ _ _)
  have BW := hide hbW
  have hsW := hide (show w.heap.size < W.heap.size from by rw [hW]; simp)
  by_cases hnm : n = m
  · subst hnm
    have hmk := make_flags11 n hm W
    have ha1 := hide (ha.below hbW hS)
    have hSW := hide (fun b (h : S b) => (show b < W.heap.size from Nat.lt_of_lt_of_le (hS b h) hbW.size))
    have g1 := Blk.new W 4 (flA zs n 0)
    have b1 := below1 W (Obj.cells (flA zs n 0) 4)
    rw [← flA_zero zs n] at hmk
    obtain ⟨w1, hw1⟩ : ∃ x, x = W.alloc (Obj.cells (flA zs n 0) 4) := ⟨_, rfl⟩
    rw [← hw1] at hmk g1 b1
    have G1 := hide g1
    have R1 := hide (R.out.below b1 R.out.lt)
    have B1 := hide (BW.out.trans (b1.mono BW.out.size))
    have ha2 := hide (ha1.out.below b1 hSW.out)
    have hS2 := hide (fun b (h : S b) => (show b < W.heap.size from hSW.out b h))
    have hgw := hide (show w.heap.size < W.heap.size from hsW.out)
    obtain ⟨g, hg⟩ : ∃ g, g = W.heap.size := ⟨_, rfl⟩
    rw [← hg] at G1 hgw hS2 hmk
    replace hz := hide hz
    clear ha hS hbW g1 b1 ha1 hSW hsW hw1 hg
    go_enter Try.func59, Try.ntmps59
    go_upto_region 1 with fail
    rw [← hW]
    clear hW
    go_wp2_with fail
    clear hmk
    go_loopw [19] (fun i wr => ∃ k : Nat, k ≤ n ∧ i = .int .i64 k ∧ Hid (seenOk zs n k) ∧ Hid (Blk wr g 4 (flA zs n k)) ∧ Hid (Blk wr w.heap.size 80 #[.slice none 0 0, .nilFunc]) ∧ Hid (Below w.heap.size w wr) ∧ Hid (Below w1.heap.size w1 wr ∨ True) ∧ Hid (IntsAt wr S A zs)) (fun i _ => n - (intOf i).toNat)
    case atStart => exact ⟨0, Nat.zero_le _, rfl, hide (seenOk_zero _ _), G1, R1, B1, hide (.inr trivial), ha2⟩
    case round =>
      clear G1 R1 B1 ha2
      obtain ⟨k, hk, rfl, K0, G0, R0, B0, -, a0⟩ := hrel
      by_cases hlt : k < n
      · have hlt' : decide ((k : Int) < (n : Int)) = true := decide_eq_true (by omega)
        have hkn : k < n := hlt
        obtain ⟨b, off, rfl, hbS, hc⟩ := a0.out.2 (by rw [hz.out]; omega)
        have hcell := hc k (by rw [hz.out]; exact hlt)
        have hout := hide (fun h => order_out (l := zs) (n := n) (k := k) (by rw [hz.out]; exact hlt) h)
        have hagain := hide (fun h => order_again (l := zs) (n := n) (k := k) (by rw [hz.out]; exact hlt) h)
        have hnext := hide (fun h0 h1 => seenOk_succ K0.out (by rw [hz.out]; exact hlt) h0 h1)
        have hset := hide (fun x h => flA_succ zs n k x (by rw [hz.out]; exact hlt) h)
        obtain ⟨z, hzz⟩ : ∃ z, z = geti zs k := ⟨_, rfl⟩
        rw [← hzz] at hcell hout hagain hnext hset
        clear hc hzz
        by_cases h0 : z < 0
        · have hE := hide (show res = false from by rw [hres.out]; exact hout.out (by omega))
          have h0' : decide (z < 0) = true := decide_eq_true h0
          obtain ⟨r0, r1⟩ := (show wr.cell? ⟨w.heap.size, 0, none⟩ = some (.slice none 0 0) ∧ wr.cell? ⟨w.heap.size, 1, none⟩ = some .nilFunc from ⟨R0.out.cell 0, R0.out.cell 1⟩)
          obtain ⟨r2, r3⟩ := (show wr.frozen? ⟨w.heap.size, 0, none⟩ = false ∧ wr.frozen? ⟨w.heap.size, 1, none⟩ = false from ⟨R0.out.frozen 0, R0.out.frozen 1⟩)
          have lR := R0.out.lt
          go_wp2_with fail
          refine bodyPost_ret (v := .tuple #[.agg #[.slice none 0 0, .nilFunc], .bool false]) (by simp [results, Try.results59, go_sem, r0, r1]; done) rfl ?_
          rw [hE.out]
          exact ⟨_, rfl, rfl, (B0.out.setCell (p := ⟨w.heap.size, 0, none⟩) (Nat.le_refl _) _).setCell (p := ⟨w.heap.size, 1, none⟩) (Nat.le_refl _) _⟩
        · have h0' : decide (z < 0) = false := decide_eq_false h0
          by_cases h1 : (n : Int) ≤ z
          · have hE := hide (show res = false from by rw [hres.out]; exact hout.out (by omega))
            have h1' : decide ((n : Int) ≤ z) = true := decide_eq_true h1
            obtain ⟨r0, r1⟩ := (show wr.cell? ⟨w.heap.size, 0, none⟩ = some (.slice none 0 0) ∧ wr.cell? ⟨w.heap.size, 1, none⟩ = some .nilFunc from ⟨R0.out.cell 0, R0.out.cell 1⟩)
            obtain ⟨r2, r3⟩ := (show wr.frozen? ⟨w.heap.size, 0, none⟩ = false ∧ wr.frozen? ⟨w.heap.size, 1, none⟩ = false from ⟨R0.out.frozen 0, R0.out.frozen 1⟩)
            have lR := R0.out.lt
            go_wp2_with fail
            refine bodyPost_ret (v := .tuple #[.agg #[.slice none 0 0, .nilFunc], .bool false]) (by simp [results, Try.results59, go_sem, r0, r1]; done) rfl ?_
            rw [hE.out]
            exact ⟨_, rfl, rfl, (B0.out.setCell (p := ⟨w.heap.size, 0, none⟩) (Nat.le_refl _) _).setCell (p := ⟨w.heap.size, 1, none⟩) (Nat.le_refl _) _⟩
          · have h1' : decide ((n : Int) ≤ z) = false := decide_eq_false h1
            obtain ⟨y, rfl⟩ : ∃ y : Nat, z = (y : Int) := ⟨z.toNat, by omega⟩
            have hyn : y < n := by omega
            have hyn' : (y : Int) < (n : Int) := by omega
            have f0 := (G0.out.cell y).trans (flA_get zs n k y hyn)
            have f1 := G0.out.frozen y
            have fl := G0.out.lt
            cases hb : decide ((y : Int) ∈ zs.take k)
            · rw [hb] at f0
              have K1 := hide (hnext.out ⟨by omega, by omega⟩ (of_decide_eq_false hb))
              have G2 := hide (show Blk (wr.setCell ⟨g, y, none⟩ (.bool true)) g 4 (flA zs n (k + 1)) from by
                rw [hset.out y rfl]
                exact G0.out.set_ y (.bool true))
              have R2 := hide (R0.out.far (p := ⟨g, y, none⟩) (by have := hgw.out; show w.heap.size ≠ g; omega) (.bool true))
              have B2 := hide (B0.out.setCell (p := ⟨g, y, none⟩) (by have := hgw.out; show w.heap.size ≤ g; omega) (.bool true))
              have a2 := hide (show IntsAt (wr.setCell ⟨g, y, none⟩ (.bool true)) S (some ⟨b, off, none⟩) zs from a0.out.set (p := ⟨g, y, none⟩) (.bool true) (fun h => Nat.lt_irrefl _ (hS2.out _ h)))
              clear hb K0 hnext hset hagain hout hres
              go_wp2_with fail
              go_roundw
              case rel => exact ⟨k + 1, by omega, by go_num, K1, G2, R2, B2, hide (.inr trivial), a2⟩
              case measure => simp [intOf]; omega
            · rw [hb] at f0
              have hE := hide (show res = false from by rw [hres.out]; exact hagain.out (of_decide_eq_true hb))
              clear hb
              obtain ⟨r0, r1⟩ := (show wr.cell? ⟨w.heap.size, 0, none⟩ = some (.slice none 0 0) ∧ wr.cell? ⟨w.heap.size, 1, none⟩ = some .nilFunc from ⟨R0.out.cell 0, R0.out.cell 1⟩)
              obtain ⟨r2, r3⟩ := (show wr.frozen? ⟨w.heap.size, 0, none⟩ = false ∧ wr.frozen? ⟨w.heap.size, 1, none⟩ = false from ⟨R0.out.frozen 0, R0.out.frozen 1⟩)
              have lR := R0.out.lt
              go_wp2_with fail
              refine bodyPost_ret (v := .tuple #[.agg #[.slice none 0 0, .nilFunc], .bool false]) (by simp [results, Try.results59, go_sem, r0, r1]; done) rfl ?_
              rw [hE.out]
              exact ⟨_, rfl, rfl, (B0.out.setCell (p := ⟨w.heap.size, 0, none⟩) (Nat.le_refl _) _).setCell (p := ⟨w.heap.size, 1, none⟩) (Nat.le_refl _) _⟩
      · obtain rfl : k = n := by omega
        have hlt' : decide ((k : Int) < (k : Int)) = false := decide_eq_false (by omega)
        have hE := hide (show res = true from by rw [hres.out]; exact seenOk_all hz.out K0.out)
        obtain ⟨r0, r1⟩ := (show wr.cell? ⟨w.heap.size, 0, none⟩ = some (.slice none 0 0) ∧ wr.cell? ⟨w.heap.size, 1, none⟩ = some .nilFunc from ⟨R0.out.cell 0, R0.out.cell 1⟩)
        obtain ⟨r2, r3⟩ := (show wr.frozen? ⟨w.heap.size, 0, none⟩ = false ∧ wr.frozen? ⟨w.heap.size, 1, none⟩ = false from ⟨R0.out.frozen 0, R0.out.frozen 1⟩)
        have lR := R0.out.lt
        go_wp2_with fail
        refine bodyPost_ret (v := .tuple #[.agg #[.slice A k c, .func (.func G) #[x] #[]], .bool true]) (by simp [results, Try.results59, go_sem, r0, r1]; done) rfl ?_
        rw [hE.out]
        exact ⟨_, rfl, rfl, (B0.out.setCell (p := ⟨w.heap.size, 0, none⟩) (Nat.le_refl _) _).setCell (p := ⟨w.heap.size, 1, none⟩) (Nat.le_refl _) _⟩
  · have hE := hide (show res = false from by rw [hres.out]; exact order_len (by rw [hz]; exact hnm))
    have hne : ((n : Int) != (m : Int)) = true := by simp; omega
    clear hz ha hS hnm hbW hsW
    go_enter Try.func59, Try.ntmps59
    go_upto_region 1 with fail
    rw [← hW]
    clear hW
    obtain ⟨r0, r1⟩ := (show W.cell? ⟨w.heap.size, 0, none⟩ = some (.slice none 0 0) ∧ W.cell? ⟨w.heap.size, 1, none⟩ = some .nilFunc from ⟨R.out.cell 0, R.out.cell 1⟩)
    obtain ⟨r2, r3⟩ := (show W.frozen? ⟨w.heap.size, 0, none⟩ = false ∧ W.frozen? ⟨w.heap.size, 1, none⟩ = false from ⟨R.out.frozen 0, R.out.frozen 1⟩)
    have lR := R.out.lt
    go_wp2_with fail
    refine bodyPost_ret (v := .tuple #[.agg #[.slice none 0 0, .nilFunc], .bool false]) (by simp [results, Try.results59, go_sem, r0, r1]; done) rfl ?_
    rw [hE.out]
    exact ⟨_, rfl, rfl, (BW.out.setCell (p := ⟨w.heap.size, 0, none⟩) (Nat.le_refl _) _).setCell (p := ⟨w.heap.size, 1, none⟩) (Nat.le_refl _) _⟩
end Go.Proofs.Ytjendjbbhohjcaa

namespace Go.Proofs.Ytjendjbbhohjcaa
open Go.RowKit

set_option maxRecDepth 100000 in
set_option maxHeartbeats 6400000 in
theorem turnByT_any (A : Option Addr) (zs : List Int) (n c m G : Nat) (x : Value) (S : Nat → Prop) (w : World) (hz : zs.length = n) (hn63 : n ≤ 9223372036854775807) (hm : m ≤ 1048576) (hS : ∀ b, S b → b < w.heap.size) (ha : IntsAt w S A zs) :
    Calls Try.prog 83 #[.slice A n c, .int .i64 m, .func (.func G) #[x] #[]] w fun e w' => ∃ v, e = .returned (.tuple #[.agg v, .bool (orderB zs m)]) ∧ v = turnV (orderB zs m) #[.slice A n c, .func (.func G) #[x] #[]] #[.slice none 0 0, .nilFunc] ∧ Below w.heap.size w w' := by
  obtain ⟨res, hres⟩ : ∃ res, res = orderB zs m := ⟨_, rfl⟩
  rw [← hres]
  replace hres := hide hres
  obtain ⟨W, hW⟩ : ∃ x, x = w.alloc (Obj.cells #[.slice none 0 0, .nilFunc] 101) := ⟨_, rfl⟩
  have hbW : Below w.heap.size w W := by rw [hW]; exact below1 _ _
  have R := hide (show Blk W w.heap.size 101 #[.slice none 0 0, .nilFunc] from by rw [hW]; exact Blk.new _ _ _)
  have BW := hide hbW
  have hsW := hide (show w.heap.size < W.heap.size from by rw [hW]; simp)
  by_cases hnm : n = m
  · subst hnm
    have hmk := make_flags11 n hm W
    have ha1 := hide (ha.below hbW hS)
    have hSW := hide (fun b (h : S b) => (show b < W.heap.size from Nat.lt_of_lt_of_le (hS b h) hbW.size))
    have g1 := Blk.new W 4 (flA zs n 0)
    have b1 := below1 W (Obj.cells (flA zs n 0) 4)
    rw [← flA_zero zs n] at hmk
    obtain ⟨w1, hw1⟩ : ∃ x, x = W.alloc (Obj.cells (flA zs n 0) 4) := ⟨_, rfl⟩
    rw [← hw1] at hmk g1 b1
    have G1 := hide g1
    have R1 := hide (R.out.below b1 R.out.lt)
    have B1 := hide (BW.out.trans (b1.mono BW.out.size))
    have ha2 := hide (ha1.out.below b1 hSW.out)
    have hS2 := hide (fun b (h : S b) => (show b < W.heap.size from hSW.out b h))
    have hgw := hide (show w.heap.size < W.heap.size from hsW.out)
    obtain ⟨g, hg⟩ : ∃ g, g = W.heap.size := ⟨_, rfl⟩
    rw [← hg] at G1 hgw hS2 hmk
    replace hz := hide hz
    clear ha hS hbW g1 b1 ha1 hSW hsW hw1 hg
    go_enter Try.func83, Try.ntmps83
    go_upto_region 1 with fail
    rw [← hW]
    clear hW
    go_wp2_with fail
    clear hmk
    go_loopw [19] (fun i wr => ∃ k : Nat, k ≤ n ∧ i = .int .i64 k ∧ Hid (seenOk zs n k) ∧ Hid (Blk wr g 4 (flA zs n k)) ∧ Hid (Blk wr w.heap.size 101 #[.slice none 0 0, .nilFunc]) ∧ Hid (Below w.heap.size w wr) ∧ Hid (Below w1.heap.size w1 wr ∨ True) ∧ Hid (IntsAt wr S A zs)) (fun i _ => n - (intOf i).toNat)
    case atStart => exact ⟨0, Nat.zero_le _, rfl, hide (seenOk_zero _ _), G1, R1, B1, hide (.inr trivial), ha2⟩
    case round =>
      clear G1 R1 B1 ha2
      obtain ⟨k, hk, rfl, K0, G0, R0, B0, -, a0⟩ := hrel
      by_cases hlt : k < n
      · have hlt' : decide ((k : Int) < (n : Int)) = true := decide_eq_true (by omega)
        have hkn : k < n := hlt
        obtain ⟨b, off, rfl, hbS, hc⟩ := a0.out.2 (by rw [hz.out]; omega)
        have hcell := hc k (by rw [hz.out]; exact hlt)
        have hout := hide (fun h => order_out (l := zs) (n := n) (k := k) (by rw [hz.out]; exact hlt) h)
        have hagain := hide (fun h => order_again (l := zs) (n := n) (k := k) (by rw [hz.out]; exact hlt) h)
        have hnext := hide (fun h0 h1 => seenOk_succ K0.out (by rw [hz.out]; exact hlt) h0 h1)
        have hset := hide (fun x h => flA_succ zs n k x (by rw [hz.out]; exact hlt) h)
        obtain ⟨z, hzz⟩ : ∃ z, z = geti zs k := ⟨_, rfl⟩
        rw [← hzz] at hcell hout hagain hnext hset
        clear hc hzz
        by_cases h0 : z < 0
        · have hE := hide (show res = false from by rw [hres.out]; exact hout.out (by omega))
          have h0' : decide (z < 0) = true := decide_eq_true h0
          obtain ⟨r0, r1⟩ := (show wr.cell? ⟨w.heap.size, 0, none⟩ = some (.slice none 0 0) ∧ wr.cell? ⟨w.heap.size, 1, none⟩ = some .nilFunc from ⟨R0.out.cell 0, R0.out.cell 1⟩)
          obtain ⟨r2, r3⟩ := (show wr.frozen? ⟨w.heap.size, 0, none⟩ = false ∧ wr.frozen? ⟨w.heap.size, 1, none⟩ = false from ⟨R0.out.frozen 0, R0.out.frozen 1⟩)
          have lR := R0.out.lt
          go_wp2_with fail
          refine bodyPost_ret (v := .tuple #[.agg #[.slice none 0 0, .nilFunc], .bool false]) (by simp [results, Try.results83, go_sem, r0, r1]; done) rfl ?_
          rw [hE.out]
          exact ⟨_, rfl, rfl, (B0.out.setCell (p := ⟨w.heap.size, 0, none⟩) (Nat.le_refl _) _).setCell (p := ⟨w.heap.size, 1, none⟩) (Nat.le_refl _) _⟩
        · have h0' : decide (z < 0) = false := decide_eq_false h0
          by_cases h1 : (n : Int) ≤ z
          · have hE := hide (show res = false from by rw [hres.out]; exact hout.out (by omega))
            have h1' : decide ((n : Int) ≤ z) = true := decide_eq_true h1
            obtain ⟨r0, r1⟩ := (show wr.cell? ⟨w.heap.size, 0, none⟩ = some (.slice none 0 0) ∧ wr.cell? ⟨w.heap.size, 1, none⟩ = some .nilFunc from ⟨R0.out.cell 0, R0.out.cell 1⟩)
            obtain ⟨r2, r3⟩ := (show wr.frozen? ⟨w.heap.size, 0, none⟩ = false ∧ wr.frozen? ⟨w.heap.size, 1, none⟩ = false from ⟨R0.out.frozen 0, R0.out.frozen 1⟩)
            have lR := R0.out.lt
            go_wp2_with fail
            refine bodyPost_ret (v := .tuple #[.agg #[.slice none 0 0, .nilFunc], .bool false]) (by simp [results, Try.results83, go_sem, r0, r1]; done) rfl ?_
            rw [hE.out]
            exact ⟨_, rfl, rfl, (B0.out.setCell (p := ⟨w.heap.size, 0, none⟩) (Nat.le_refl _) _).setCell (p := ⟨w.heap.size, 1, none⟩) (Nat.le_refl _) _⟩
          · have h1' : decide ((n : Int) ≤ z) = false := decide_eq_false h1
            obtain ⟨y, rfl⟩ : ∃ y : Nat, z = (y : Int) := ⟨z.toNat, by omega⟩
            have hyn : y < n := by omega
            have hyn' : (y : Int) < (n : Int) := by omega
            have f0 := (G0.out.cell y).trans (flA_get zs n k y hyn)
            have f1 := G0.out.frozen y
            have fl := G0.out.lt
            cases hb : decide ((y : Int) ∈ zs.take k)
            · rw [hb] at f0
              have K1 := hide (hnext.out ⟨by omega, by omega⟩ (of_decide_eq_false hb))
              have G2 := hide (show Blk (wr.setCell ⟨g, y, none⟩ (.bool true)) g 4 (flA zs n (k + 1)) from by
                rw [hset.out y rfl]
                exact G0.out.set_ y (.bool true))
              have R2 := hide (R0.out.far (p := ⟨g, y, none⟩) (by have := hgw.out; show w.heap.size ≠ g; omega) (.bool true))
              have B2 := hide (B0.out.setCell (p := ⟨g, y, none⟩) (by have := hgw.out; show w.heap.size ≤ g; omega) (.bool true))
              have a2 := hide (show IntsAt (wr.setCell ⟨g, y, none⟩ (.bool true)) S (some ⟨b, off, none⟩) zs from a0.out.set (p := ⟨g, y, none⟩) (.bool true) (fun h => Nat.lt_irrefl _ (hS2.out _ h)))
              clear hb K0 hnext hset hagain hout hres
              go_wp2_with fail
              go_roundw
              case rel => exact ⟨k + 1, by omega, by go_num, K1, G2, R2, B2, hide (.inr trivial), a2⟩
              case measure => simp [intOf]; omega
            · rw [hb] at f0
              have hE := hide (show res = false from by rw [hres.out]; exact hagain.out (of_decide_eq_true hb))
              clear hb
              obtain ⟨r0, r1⟩ := (show wr.cell? ⟨w.heap.size, 0, none⟩ = some (.slice none 0 0) ∧ wr.cell? ⟨w.heap.size, 1, none⟩ = some .nilFunc from ⟨R0.out.cell 0, R0.out.cell 1⟩)
              obtain ⟨r2, r3⟩ := (show wr.frozen? ⟨w.heap.size, 0, none⟩ = false ∧ wr.frozen? ⟨w.heap.size, 1, none⟩ = false from ⟨R0.out.frozen 0, R0.out.frozen 1⟩)
              have lR := R0.out.lt
              go_wp2_with fail
              refine bodyPost_ret (v := .tuple #[.agg #[.slice none 0 0, .nilFunc], .bool false]) (by simp [results, Try.results83, go_sem, r0, r1]; done) rfl ?_
              rw [hE.out]
              exact ⟨_, rfl, rfl, (B0.out.setCell (p := ⟨w.heap.size, 0, none⟩) (Nat.le_refl _) _).setCell (p := ⟨w.heap.size, 1, none⟩) (Nat.le_refl _) _⟩
      · obtain rfl : k = n := by omega
        have hlt' : decide ((k : Int) < (k : Int)) = false := decide_eq_false (by omega)
        have hE := hide (show res = true from by rw [hres.out]; exact seenOk_all hz.out K0.out)
        obtain ⟨r0, r1⟩ := (show wr.cell? ⟨w.heap.size, 0, none⟩ = some (.slice none 0 0) ∧ wr.cell? ⟨w.heap.size, 1, none⟩ = some .nilFunc from ⟨R0.out.cell 0, R0.out.cell 1⟩)
        obtain ⟨r2, r3⟩ := (show wr.frozen? ⟨w.heap.size, 0, none⟩ = false ∧ wr.frozen? ⟨w.heap.size, 1, none⟩ = false from ⟨R0.out.frozen 0, R0.out.frozen 1⟩)
        have lR := R0.out.lt
        go_wp2_with fail
        refine bodyPost_ret (v := .tuple #[.agg #[.slice A k c, .func (.func G) #[x] #[]], .bool true]) (by simp [results, Try.results83, go_sem, r0, r1]; done) rfl ?_
        rw [hE.out]
        exact ⟨_, rfl, rfl, (B0.out.setCell (p := ⟨w.heap.size, 0, none⟩) (Nat.le_refl _) _).setCell (p := ⟨w.heap.size, 1, none⟩) (Nat.le_refl _) _⟩
  · have hE := hide (show res = false from by rw [hres.out]; exact order_len (by rw [hz]; exact hnm))
    have hne : ((n : Int) != (m : Int)) = true := by simp; omega
    clear hz ha hS hnm hbW hsW
    go_enter Try.func83, Try.ntmps83
    go_upto_region 1 with fail
    rw [← hW]
    clear hW
    obtain ⟨r0, r1⟩ := (show W.cell? ⟨w.heap.size, 0, none⟩ = some (.slice none 0 0) ∧ W.cell? ⟨w.heap.size, 1, none⟩ = some .nilFunc from ⟨R.out.cell 0, R.out.cell 1⟩)
    obtain ⟨r2, r3⟩ := (show W.frozen? ⟨w.heap.size, 0, none⟩ = false ∧ W.frozen? ⟨w.heap.size, 1, none⟩ = false from ⟨R.out.frozen 0, R.out.frozen 1⟩)
    have lR := R.out.lt
    go_wp2_with fail
    refine bodyPost_ret (v := .tuple #[.agg #[.slice none 0 0, .nilFunc], .bool false]) (by simp [results, Try.results83, go_sem, r0, r1]; done) rfl ?_
    rw [hE.out]
    exact ⟨_, rfl, rfl, (BW.out.setCell (p := ⟨w.heap.size, 0, none⟩) (Nat.le_refl _) _).setCell (p := ⟨w.heap.size, 1, none⟩) (Nat.le_refl _) _⟩
end Go.Proofs.Ytjendjbbhohjcaa

namespace Go.Proofs.Ytjendjbbhohjcaa
open Go.RowKit

set_option maxRecDepth 100000 in
set_option maxHeartbeats 1600000 in
theorem cloneInts_any (A : Option Addr) (zs : List Int) (n c : Nat) (w : World) (hn : zs.length = n) (hz2 : n ≤ 1048576) (hS : IntsAt w (Old w.heap.size) A zs) :
    Calls Try.prog 85 #[.slice A n c] w fun e w' => RowO 3 1 w w' e n zs := by
  rcases A with _ | ad
  · have hz : zs = [] := by
      rcases Nat.eq_zero_or_pos zs.length with h | h
      · exact List.eq_nil_of_length_eq_zero h
      · obtain ⟨b, off, e, _⟩ := hS.2 h
        cases e
    subst hz
    obtain rfl : n = 0 := by simpa using hn.symm
    clear hn hS
    have he : ∀ w : World, (binOp .eql 23 (.slice none 0 c) (.slice none 0 0)).run Try.prog w = .ok (.bool true) w := fun _ => by kernel_rfl
    go_enter Try.func85, Try.ntmps85
    go_wp2
    go_ret
    exact ⟨none, 0, rfl, ⟨rfl, .inl ⟨rfl, rfl⟩⟩, Below.refl _ _⟩
  · obtain ⟨i1, hi1, hy0, hy1, hy2⟩ := info_parts Try.infoInt
    have hb0 := below1 w (Obj.cells #[] 3)
    have hsrc := hide (hS.below hb0 (fun _ h => h))
    clear hS
    replace hn := hide hn
    have he : ∀ w : World, (binOp .eql 23 (.slice (some ad) n c) (.slice none 0 0)).run Try.prog w = .ok (.bool false) w := fun _ => by kernel_rfl
    go_enter Try.func85, Try.ntmps85
    go_wp2_with (at_builtin; refine wpList_append_src _ rfl _ _ _ rfl w.heap.size 3 i1 _ 1 8 Try.underlying23 hi1 hy0 hy1 hy2 rfl (by omega) (.slice (some ⟨w.heap.size, 0, none⟩) 0 0) 0 [] rfl (own_row (Nat.le_refl _) (by omega) rfl) (Old w.heap.size) (some ad) n c zs rfl (by rw [hn.out]; simp) hsrc.out (by have : maxLen = 9223372036854775807 := rfl; omega) (by omega) (by simp) ?_)
    intro A' c' w2 hown hgr hat
    go_wp2_with fail
    go_ret
    exact ⟨A', c', by simp, hown, hb0.trans (below_own hgr (fun k hk => by simp [Value.ownBlock]; omega) (by simp))⟩

end Go.Proofs.Ytjendjbbhohjcaa
