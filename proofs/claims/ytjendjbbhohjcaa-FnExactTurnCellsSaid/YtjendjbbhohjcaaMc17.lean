/- turningBy of numbers. -/
import Derived.Test.YtjendjbbhohjcaaMc0
import Derived.Test.YtjendjbbhohjcaaMc9
import Derived.Test.YtjendjbbhohjcaaMc10
import Derived.Test.YtjendjbbhohjcaaMc11
import Derived.Test.YtjendjbbhohjcaaMc16
import Derived.Deep.RegionHeld3
namespace Go.Proofs.Ytjendjbbhohjcaa
open Go.RowKit

def turnB (p : ProgD) (zs : List Int) : Bool := progB p && orderB zs p.ts.length
def turnQ (p : ProgD) (zs : List Int) : ProgD := if turnB p zs then ⟨p.init, turnTs p.ts zs zs.length⟩ else ⟨[], []⟩
set_option maxRecDepth 100000 in
set_option maxHeartbeats 1600000 in
theorem cloneInss_any (A : Option Addr) (l : List InsD) (n c : Nat) (w : World) (hn : l.length = n) (hl : n ≤ 1000) (hS : InssAt w (Old w.heap.size) A l) :
    Calls Try.prog 107 #[.slice A n c] w fun e w' => InsR w w' e l := by
  rcases A with _ | ad
  · have hz : l = [] := by
      rcases Nat.eq_zero_or_pos l.length with h | h
      · exact List.eq_nil_of_length_eq_zero h
      · obtain ⟨b, off, e, _⟩ := hS.2 h
        cases e
    subst hz
    obtain rfl : n = 0 := by simpa using hn.symm
    clear hn hS
    have he : ∀ w : World, (binOp .eql 43 (.slice none 0 c) (.slice none 0 0)).run Try.prog w = .ok (.bool true) w := fun _ => by kernel_rfl
    go_enter Try.func107, Try.ntmps107
    go_wp2
    go_ret
    exact InsR.nil _
  · obtain ⟨i1, hi1, hy0, hy1, hy2⟩ := info_parts Try.infoIns
    have hb0 := below1 w (Obj.cells #[] 89)
    have hsrc := hide ((hS.ints (by omega)).below hb0 (fun _ h => h))
    have hfl := hide (show (flatZ l).length = n * 6 from by rw [flatZ_len, hn])
    clear hS
    have he : ∀ w : World, (binOp .eql 43 (.slice (some ad) n c) (.slice none 0 0)).run Try.prog w = .ok (.bool false) w := fun _ => by kernel_rfl
    replace hn := hide hn
    go_enter Try.func107, Try.ntmps107
    go_wp2_with (at_builtin; refine wpList_append_src _ rfl _ _ _ rfl w.heap.size 89 i1 _ 6 48 Try.underlying43 hi1 hy0 hy1 hy2 rfl (by omega) (.slice (some ⟨w.heap.size, 0, none⟩) 0 0) 0 [] rfl (own_row (Nat.le_refl _) (by omega) rfl) (Old w.heap.size) (some ad) n c (flatZ l) rfl (by rw [hfl.out]) hsrc.out (by have : maxLen = 9223372036854775807 := rfl; omega) (by omega) (by simp) ?_)
    intro A' c' w2 hown hgr hat
    go_wp2_with fail
    go_ret
    rw [flatZ_map] at hown
    have hn2 := hn.out
    subst hn2
    exact ⟨A', c', by simp, by simpa using hown, hb0.trans (below_own hgr (fun k hk => by simp [Value.ownBlock]; omega) (by simp))⟩
theorem Try.infoThrZ : (Try.prog.info? 45).map (fun i => (i.zero, i.size, i.bytes)) = some (some (.agg #[.slice none 0 0]), 1, 24) := by kernel_rfl
theorem make_threads11 (n : Nat) (hn : n ≤ 1048576) (W : World) : (Instr.makeSlice 35 (.int .i64 (n : Int)) (.int .i64 (n : Int))).run Try.prog W = .ok (.slice (some ⟨W.heap.size, 0, none⟩) n n) (W.alloc (.cells (zrow #[.slice none 0 0] n) 45)) := by
  obtain ⟨i0, hi, hz0, hz1, hz2⟩ := info_parts Try.infoThrZ
  have hr := run_make (P := Try.prog) W 35 45 i0 _ Try.underlying35 hi hz0 .i64 .i64 n n (by omega) (Int.le_refl _) (by rw [hz2]; omega) (by omega)
  simp only [Int.toNat_natCast, hz1, Nat.mul_one] at hr
  exact hr
theorem zrow_repl (n : Nat) (v : Value) : zrow #[v] n = (List.replicate n v).toArray := by
  apply Array.ext
  · simp [zrow, madeCells]
  · intro i h1 h2
    simp [zrow, madeCells, Nat.mod_one]
set_option maxRecDepth 100000 in
set_option maxHeartbeats 3200000 in
theorem copyOfThread_any (A A' : Option Addr) (c c' k : Nat) (p : ProgD) (S : Nat → Prop) (w : World) (hS : ∀ b, S b → b < w.heap.size) (ht : ThreadsAt w S A' p.ts) (hk : k < p.ts.length) (hl : (gett p.ts k).length ≤ 1000) :
    Calls Try.prog 84 #[.agg #[.slice A p.init.length c, .slice A' p.ts.length c'], .int .i64 k] w fun e w' => ThrR w w' e (gett p.ts k) := by
  obtain ⟨W0, hW0⟩ : ∃ x, x = w.alloc (Obj.cells #[.slice A p.init.length c, .slice A' p.ts.length c'] 37) := ⟨_, rfl⟩
  obtain ⟨W, hW⟩ : ∃ x, x = W0.alloc (Obj.cells #[.slice none 0 0] 45) := ⟨_, rfl⟩
  have hbW0 : Below w.heap.size w W0 := by rw [hW0]; exact below1 _ _
  have hsz0 : w.heap.size + 1 = W0.heap.size := by rw [hW0]; simp
  have hbW : Below w.heap.size w W := by rw [hW]; exact hbW0.alloc hbW0.size _
  have X := hide (show Blk W w.heap.size 37 #[.slice A p.init.length c, .slice A' p.ts.length c'] from by rw [hW, hW0]; exact (Blk.new _ _ _).alloc _)
  have R := hide (show Blk W (w.heap.size + 1) 45 #[.slice none 0 0] from by rw [hW, hsz0]; exact Blk.new _ _ _)
  obtain ⟨b, off, rfl, hbS, hc⟩ := (ht.below hbW hS).2 (by omega)
  obtain ⟨A3, c3, hcell, -, hin⟩ := hc k hk
  have hbl := Nat.lt_of_lt_of_le (hS b hbS) hbW.size
  have kC := cloneInss_any A3 (gett p.ts k) _ c3 W rfl hl (hin.more (fun b h => Nat.lt_of_lt_of_le (hS b h) hbW.size))
  obtain ⟨l, hll⟩ : ∃ l, l = gett p.ts k := ⟨_, rfl⟩
  rw [← hll] at kC hcell ⊢
  have kC := hide kC
  have BW := hide hbW
  clear hbW hbW0 hsz0 hc hin ht hl hS hll
  go_enter Try.func84, Try.ntmps84
  go_upto_region 1 with fail
  rw [← hW0, ← hW]
  clear hW hW0
  have x1 := X.out.cell 1
  have lx := X.out.lt
  simp only [List.getElem?_toArray, List.getElem?_cons_zero, List.getElem?_cons_succ] at x1
  go_wp2_with fail
  refine kC.out.mono ?_
  rintro e w1 ⟨A1, c1, rfl, ho1, hb1⟩
  have R1 := R.out.below hb1 R.out.lt
  have r0 := R1.cell 0
  have r2 := R1.frozen 0
  have lR := R1.lt
  have O1 := hide (own_base ho1 BW.out.size)
  have B1 := hide (BW.out.trans (hb1.mono BW.out.size))
  simp only [List.getElem?_toArray, List.getElem?_cons_zero] at r0
  have hne := hide (show ∀ b, A1.map (·.block) = some b → b ≠ w.heap.size + 1 from fun b hb e => by
    subst e
    have := (own_lt ho1 (b := w.heap.size + 1) (by
      cases A1 with
      | none => simp at hb
      | some a => simpa [Value.ownBlock] using hb)).1
    have h2 := R.out.lt
    omega)
  clear ho1 hb1 kC x1 lx hcell hbl R1
  go_wp2_with fail
  refine bodyPost_ret (v := .agg #[.slice A1 l.length c1]) (by simp [results, Try.results84, go_sem, r0]; done) rfl ?_
  refine ⟨A1, c1, rfl, own_setFar O1.out (fun e => ?_) _, B1.out.setCell (p := ⟨w.heap.size + 1, 0, none⟩) (by show w.heap.size ≤ w.heap.size + 1; omega) _⟩
  cases A1 with
  | none => simp [Value.ownBlock] at e
  | some a => exact hne.out _ rfl (by simpa [Value.ownBlock] using e)
set_option maxRecDepth 100000 in
set_option maxHeartbeats 6400000 in
theorem fetchedT_any (AO A A' : Option Addr) (zs : List Int) (n cO c c' : Nat) (p : ProgD) (S : Nat → Prop) (w : World) (hz : zs.length = n) (hn : n ≤ 1000) (hS : ∀ b, S b → b < w.heap.size) (ha : IntsAt w S AO zs) (ht : ThreadsAt w S A' p.ts) (hin : ∀ k, k < n → 0 ≤ geti zs k ∧ geti zs k < p.ts.length) (hl : ∀ k, (gett p.ts k).length ≤ 1000) :
    Calls Try.prog 86 #[.agg #[.slice AO n cO, .func (.func 84) #[.agg #[.slice A p.init.length c, .slice A' p.ts.length c']] #[]]] w fun e w' => RowR3 w w' e (turnTs p.ts zs n) := by
  obtain ⟨W, hW⟩ : ∃ x, x = w.alloc (Obj.cells #[.slice AO n cO, .func (.func 84) #[.agg #[.slice A p.init.length c, .slice A' p.ts.length c']] #[]] 101) := ⟨_, rfl⟩
  have hbW : Below w.heap.size w W := by rw [hW]; exact below1 _ _
  have X := hide (show Blk W w.heap.size 101 #[.slice AO n cO, .func (.func 84) #[.agg #[.slice A p.init.length c, .slice A' p.ts.length c']] #[]] from by rw [hW]; exact Blk.new _ _ _)
  have hmk := make_threads11 n (by omega) W
  rw [zrow_repl] at hmk
  have b1 := below1 W (Obj.cells (List.replicate n (Value.slice none 0 0)).toArray 45)
  have G0 := hide (show ThG w W.heap.size n [] [] (W.alloc (Obj.cells (List.replicate n (Value.slice none 0 0)).toArray 45)) from ⟨by have := Blk.new W 45 (List.replicate n (Value.slice none 0 0)).toArray; simpa using this, rfl, fun k hk => by simp at hk, fun j k _ hk => by simp at hk, hbW.trans (b1.mono hbW.size), hbW.size⟩)
  obtain ⟨w1, hw1⟩ : ∃ x, x = W.alloc (Obj.cells (List.replicate n (Value.slice none 0 0)).toArray 45) := ⟨_, rfl⟩
  rw [← hw1] at hmk G0 b1
  have X1 := hide (X.out.below b1 X.out.lt)
  have hgw := hide (show w.heap.size < W.heap.size from by rw [hW]; simp)
  obtain ⟨g, hg⟩ : ∃ g, g = W.heap.size := ⟨_, rfl⟩
  rw [← hg] at hmk G0 hgw
  replace hz := hide hz
  replace hS := hide hS
  replace ha := hide ha
  replace ht := hide ht
  replace hin := hide hin
  replace hl := hide hl
  have x0 := X.out.cell 0
  have lx := X.out.lt
  simp only [List.getElem?_toArray, List.getElem?_cons_zero] at x0
  clear hbW b1 hw1 hg
  go_enter Try.func86, Try.ntmps86
  go_upto_region 1 with fail
  rw [← hW]
  clear hW
  go_upto_region 2 with fail
  clear hmk x0 lx X
  have x0 := X1.out.cell 0
  have lx := X1.out.lt
  simp only [List.getElem?_toArray, List.getElem?_cons_zero] at x0
  go_wp2_with fail
  clear x0 lx
  go_loopw [13] (fun i wr => ∃ (k : Nat) (vs : List Value), k ≤ n ∧ i = .int .i64 k ∧ Hid (ThG w g n (turnTs p.ts zs k) vs wr) ∧ Hid (Blk wr w.heap.size 101 #[.slice AO n cO, .func (.func 84) #[.agg #[.slice A p.init.length c, .slice A' p.ts.length c']] #[]])) (fun i _ => n - (intOf i).toNat)
  case atStart => exact ⟨0, [], Nat.zero_le _, rfl, G0, X1⟩
  case round =>
    clear G0 X1
    obtain ⟨k, vs, hk, rfl, G0, X0⟩ := hrel
    by_cases hlt : k < n
    · have hlt' : decide ((k : Int) < (n : Int)) = true := decide_eq_true (by omega)
      have hkn : k < n := hlt
      obtain ⟨b, off, rfl, hbS, hc⟩ := (ha.out.below G0.out.low hS.out).2 (by rw [hz.out]; omega)
      have hcell := hc k (by rw [hz.out]; exact hlt)
      have hst := hide (turnTs_succ p.ts zs k)
      obtain ⟨h0, h1⟩ := hin.out k hlt
      obtain ⟨z, hzz⟩ : ∃ z, z = geti zs k := ⟨_, rfl⟩
      rw [← hzz] at hcell hst h0 h1
      obtain ⟨y, rfl⟩ : ∃ y : Nat, z = (y : Int) := ⟨z.toNat, by omega⟩
      rw [Int.toNat_natCast] at hst
      have hbl := Nat.lt_of_lt_of_le (hS.out b hbS) G0.out.low.size
      have kC := hide (copyOfThread_any A A' c c' y p S wr (fun b h => Nat.lt_of_lt_of_le (hS.out b h) G0.out.low.size) (ht.out.below G0.out.low hS.out) (by omega) (hl.out y))
      have x1 := X0.out.cell 1
      have lx := X0.out.lt
      simp only [List.getElem?_toArray, List.getElem?_cons_zero, List.getElem?_cons_succ] at x1
      clear hc hzz
      go_wp2_with fail
      refine kC.out.mono ?_
      rintro e w5 ⟨A5, c5, rfl, ho5, hb5⟩
      clear x1 lx hcell hbl kC
      have G5 := G0.out.next hb5
      obtain ⟨l, hll⟩ : ∃ l, l = gett p.ts y := ⟨_, rfl⟩
      rw [← hll] at ho5 hst ⊢
      have hlenk := turnTs_len p.ts zs k
      have f0 := G5.blk.cell k
      rw [List.getElem?_toArray, List.getElem?_append_right (by rw [G5.len, hlenk]; omega), G5.len, hlenk, Nat.sub_self, List.getElem?_replicate, if_pos (by omega)] at f0
      have f1 := G5.blk.frozen k
      have fl := G5.blk.lt
      have G6 := G0.out.more (by rw [hlenk]; exact hlt) hb5 ho5
      rw [hlenk, ← hst.out] at G6
      replace G6 := hide G6
      have X6 := hide ((X0.out.below hb5 X0.out.lt).far (p := ⟨g, k, none⟩) (by have := hgw.out; show w.heap.size ≠ g; omega) (.slice A5 l.length c5))
      obtain ⟨m5, hm5⟩ : ∃ m, m = l.length := ⟨_, rfl⟩
      rw [← hm5] at G6 X6 ⊢
      clear hm5 hll hst G5 G0 X0 ho5 hb5 hlenk h0 h1
      go_wp2_with fail
      go_roundw
      case rel => exact ⟨k + 1, _, by omega, by go_num, G6, X6⟩
      case measure => simp [intOf]; omega
    · obtain rfl : k = n := by omega
      have hlt' : decide ((k : Int) < (k : Int)) = false := decide_eq_false (by omega)
      have hE := hide (G0.out.ret (turnTs_len p.ts zs k) hn)
      go_wp2_with fail
      go_ret
      exact hE.out
end Go.Proofs.Ytjendjbbhohjcaa

namespace Go.Proofs.Ytjendjbbhohjcaa
open Go.RowKit

set_option maxRecDepth 100000 in
set_option maxHeartbeats 1600000 in
theorem firstVal_any (A A' : Option Addr) (c c' k : Nat) (p : ProgD) (S : Nat → Prop) (w : World) (hS : ∀ b, S b → b < w.heap.size) (hi : IntsAt w S A p.init) (hk : k < p.init.length) :
    Calls Try.prog 92 #[.agg #[.slice A p.init.length c, .slice A' p.ts.length c'], .int .i64 k] w fun e w' => e = .returned (.int .i64 (geti p.init k)) ∧ Below w.heap.size w w' := by
  have hb0 := below1 w (Obj.cells #[.slice A p.init.length c, .slice A' p.ts.length c'] 37)
  obtain ⟨W, hW⟩ : ∃ x, x = w.alloc (Obj.cells #[.slice A p.init.length c, .slice A' p.ts.length c'] 37) := ⟨_, rfl⟩
  rw [← hW] at hb0
  have X := hide (show Blk W w.heap.size 37 #[.slice A p.init.length c, .slice A' p.ts.length c'] from by rw [hW]; exact Blk.new _ _ _)
  obtain ⟨b, off, rfl, hbS, hc⟩ := (hi.below hb0 hS).2 (by omega)
  have hcell := hc k hk
  have hbl := Nat.lt_of_lt_of_le (hS b hbS) hb0.size
  obtain ⟨z, hz⟩ : ∃ z, z = geti p.init k := ⟨_, rfl⟩
  rw [← hz] at hcell ⊢
  clear hc hz
  go_enter Try.func92, Try.ntmps92
  go_upto_region 1 with fail
  rw [← hW]
  clear hW
  have x0 := X.out.cell 0
  have lx := X.out.lt
  simp only [List.getElem?_toArray, List.getElem?_cons_zero] at x0
  go_wp2_with fail
  go_ret
  exact ⟨rfl, hb0⟩
theorem make_ints11 (n : Nat) (hn : n ≤ 1048576) (W : World) : (Instr.makeSlice 23 (.int .i64 (n : Int)) (.int .i64 (n : Int))).run Try.prog W = .ok (.slice (some ⟨W.heap.size, 0, none⟩) n n) (W.alloc (.cells (zrow #[.int .i64 0] n) 3)) := by
  obtain ⟨i0, hi, hz0, hz1, hz2⟩ := info_parts Try.infoInt
  have hr := run_make (P := Try.prog) W 23 3 i0 _ Try.underlying23 hi hz0 .i64 .i64 n n (by omega) (Int.le_refl _) (by rw [hz2]; omega) (by omega)
  simp only [Int.toNat_natCast, hz1, Nat.mul_one] at hr
  exact hr
set_option maxRecDepth 100000 in
set_option maxHeartbeats 6400000 in
theorem sentI_any (AO A A' : Option Addr) (zs : List Int) (n cO c c' : Nat) (p : ProgD) (S : Nat → Prop) (w : World) (hz : zs.length = n) (hn : n ≤ 1000) (hS : ∀ b, S b → b < w.heap.size) (ha : IntsAt w S AO zs) (hi : IntsAt w S A p.init) (hp : p.init.length = n) (hin : ∀ k, k < n → 0 ≤ geti zs k ∧ geti zs k < n) :
    Calls Try.prog 93 #[.agg #[.slice AO n cO, .func (.func 92) #[.agg #[.slice A p.init.length c, .slice A' p.ts.length c']] #[]]] w fun e w' => ∃ A1, e = .returned (.slice A1 n n) ∧ w'.ownsRow w.heap.size 3 1 (.slice A1 n n) n ((sentI (List.replicate n 0) p.init zs n).map (Value.int .i64)) ∧ Below w.heap.size w w' := by
  obtain ⟨W, hW⟩ : ∃ x, x = w.alloc (Obj.cells #[.slice AO n cO, .func (.func 92) #[.agg #[.slice A p.init.length c, .slice A' p.ts.length c']] #[]] 110) := ⟨_, rfl⟩
  have hbW : Below w.heap.size w W := by rw [hW]; exact below1 _ _
  have X := hide (show Blk W w.heap.size 110 #[.slice AO n cO, .func (.func 92) #[.agg #[.slice A p.init.length c, .slice A' p.ts.length c']] #[]] from by rw [hW]; exact Blk.new _ _ _)
  have hmk := make_ints11 n (by omega) W
  rw [zrow_repl] at hmk
  have b1 := below1 W (Obj.cells (List.replicate n (Value.int .i64 0)).toArray 3)
  obtain ⟨w1, hw1⟩ : ∃ x, x = W.alloc (Obj.cells (List.replicate n (Value.int .i64 0)).toArray 3) := ⟨_, rfl⟩
  have G0 := hide (show Blk w1 W.heap.size 3 ((sentI (List.replicate n 0) p.init zs 0).map (Value.int .i64)).toArray from by rw [hw1, sentI, List.map_replicate]; exact Blk.new _ _ _)
  rw [← hw1] at hmk b1
  have B1 := hide (hbW.trans (b1.mono hbW.size))
  have X1 := hide (X.out.below b1 X.out.lt)
  have hgw := hide (show w.heap.size < W.heap.size from by rw [hW]; simp)
  obtain ⟨g, hg⟩ : ∃ g, g = W.heap.size := ⟨_, rfl⟩
  rw [← hg] at hmk G0 hgw
  replace hz := hide hz
  replace hS := hide hS
  replace ha := hide ha
  replace hi := hide hi
  replace hin := hide hin
  replace hp := hide hp
  have x0 := X.out.cell 0
  have lx := X.out.lt
  simp only [List.getElem?_toArray, List.getElem?_cons_zero] at x0
  clear hbW b1 hw1 hg
  go_enter Try.func93, Try.ntmps93
  go_upto_region 1 with fail
  rw [← hW]
  clear hW
  go_upto_region 2 with fail
  clear hmk x0 lx X
  have x0 := X1.out.cell 0
  have lx := X1.out.lt
  simp only [List.getElem?_toArray, List.getElem?_cons_zero] at x0
  go_wp2_with fail
  clear x0 lx
  go_loopw [13] (fun i wr => ∃ (k : Nat), k ≤ n ∧ i = .int .i64 k ∧ Hid (Blk wr g 3 ((sentI (List.replicate n 0) p.init zs k).map (Value.int .i64)).toArray) ∧ Hid (Below w.heap.size w wr) ∧ Hid (Blk wr w.heap.size 110 #[.slice AO n cO, .func (.func 92) #[.agg #[.slice A p.init.length c, .slice A' p.ts.length c']] #[]])) (fun i _ => n - (intOf i).toNat)
  case atStart => exact ⟨0, Nat.zero_le _, rfl, G0, B1, X1⟩
  case round =>
    clear G0 X1 B1
    obtain ⟨k, hk, rfl, G0, B0, X0⟩ := hrel
    by_cases hlt : k < n
    · have hlt' : decide ((k : Int) < (n : Int)) = true := decide_eq_true (by omega)
      have hkn : k < n := hlt
      obtain ⟨b, off, rfl, hbS, hc⟩ := (ha.out.below B0.out hS.out).2 (by rw [hz.out]; omega)
      have hcell := hc k (by rw [hz.out]; exact hlt)
      obtain ⟨h0, h1⟩ := hin.out k hlt
      have hst := hide (show sentI (List.replicate n 0) p.init zs (k + 1) = (sentI (List.replicate n 0) p.init zs k).set (geti zs k).toNat (geti p.init k) from rfl)
      obtain ⟨z, hzz⟩ : ∃ z, z = geti zs k := ⟨_, rfl⟩
      rw [← hzz] at hcell hst h0 h1
      obtain ⟨y, rfl⟩ : ∃ y : Nat, z = (y : Int) := ⟨z.toNat, by omega⟩
      rw [Int.toNat_natCast] at hst
      have hyn : y < n := by omega
      have hbl := Nat.lt_of_lt_of_le (hS.out b hbS) B0.out.size
      have kC := hide (firstVal_any A A' c c' k p S wr (fun b h => Nat.lt_of_lt_of_le (hS.out b h) B0.out.size) (hi.out.below B0.out hS.out) (by rw [hp.out]; exact hlt))
      have x1 := X0.out.cell 1
      have lx := X0.out.lt
      simp only [List.getElem?_toArray, List.getElem?_cons_zero, List.getElem?_cons_succ] at x1
      obtain ⟨q, hq⟩ : ∃ q, q = geti p.init k := ⟨_, rfl⟩
      rw [← hq] at hst kC
      clear hc hzz hq
      go_wp2_with fail
      refine kC.out.mono ?_
      rintro e w5 ⟨rfl, hb5⟩
      clear x1 lx hcell hbl kC
      have G5 := G0.out.below hb5 G0.out.lt
      have hlen : ((sentI (List.replicate n 0) p.init zs k).map (Value.int .i64)).length = n := by rw [List.length_map, sentI_len, List.length_replicate]
      have f0 := G5.cell y
      rw [List.getElem?_toArray, List.getElem?_eq_getElem (by rw [hlen]; exact hyn)] at f0
      have f1 := G5.frozen y
      have fl := G5.lt
      have G6 := hide (show Blk (w5.setCell ⟨g, y, none⟩ (.int .i64 q)) g 3 ((sentI (List.replicate n 0) p.init zs (k + 1)).map (Value.int .i64)).toArray from by
        have h := G5.set_ y (.int .i64 q)
        rw [hst.out, List.map_set]
        rwa [List.setIfInBounds_toArray] at h)
      have X6 := hide ((X0.out.below hb5 X0.out.lt).far (p := ⟨g, y, none⟩) (by have := hgw.out; show w.heap.size ≠ g; omega) (.int .i64 q))
      have B6 := hide ((B0.out.trans (hb5.mono B0.out.size)).setCell (p := ⟨g, y, none⟩) (by have := hgw.out; show w.heap.size ≤ g; omega) (.int .i64 q))
      generalize ((sentI (List.replicate n 0) p.init zs k).map (Value.int .i64))[y] = u at f0
      clear G5 G0 X0 B0 hb5 hlen h0 h1
      go_wp2_with fail
      go_roundw
      case rel => exact ⟨k + 1, by omega, by go_num, G6, B6, X6⟩
      case measure => simp [intOf]; omega
    · obtain rfl : k = n := by omega
      have hlt' : decide ((k : Int) < (k : Int)) = false := decide_eq_false (by omega)
      have hE := hide (show wr.ownsRow w.heap.size 3 1 (.slice (some ⟨g, 0, none⟩) k k) k ((sentI (List.replicate k 0) p.init zs k).map (Value.int .i64)) from own_blk (size := 1) G0.out (Nat.le_of_lt hgw.out) hn (by simp [sentI_len]))
      go_wp2_with fail
      go_ret
      exact ⟨_, rfl, hE.out, B0.out⟩
end Go.Proofs.Ytjendjbbhohjcaa

namespace Go.Proofs.Ytjendjbbhohjcaa
open Go.RowKit

set_option maxRecDepth 100000 in
set_option maxHeartbeats 6400000 in
theorem turnByI_any (A : Option Addr) (zs : List Int) (n c m G : Nat) (x : Value) (S : Nat → Prop) (w : World) (hz : zs.length = n) (hn63 : n ≤ 9223372036854775807) (hm : m ≤ 1048576) (hS : ∀ b, S b → b < w.heap.size) (ha : IntsAt w S A zs) :
    Calls Try.prog 91 #[.slice A n c, .int .i64 m, .func (.func G) #[x] #[]] w fun e w' => ∃ v, e = .returned (.tuple #[.agg v, .bool (orderB zs m)]) ∧ v = turnV (orderB zs m) #[.slice A n c, .func (.func G) #[x] #[]] #[.slice none 0 0, .nilFunc] ∧ Below w.heap.size w w' := by
  obtain ⟨res, hres⟩ : ∃ res, res = orderB zs m := ⟨_, rfl⟩
  rw [← hres]
  replace hres := hide hres
  obtain ⟨W, hW⟩ : ∃ x, x = w.alloc (Obj.cells #[.slice none 0 0, .nilFunc] 110) := ⟨_, rfl⟩
  have hbW : Below w.heap.size w W := by rw [hW]; exact below1 _ _
  have R := hide (show Blk W w.heap.size 110 #[.slice none 0 0, .nilFunc] from by rw [hW]; exact Blk.new _ _ _)
  have BW := hide hbW
  have hsW := hide (show w.heap.size < W.heap.size from by rw [hW]; simp)
  by_cases hnm : n = m
  · subst hnm
    have hmk := make_flags11 n hm W
    have ha1 := hide (ha.below hbW hS)
    have hSW := hide (fun b (h : S b) => (show b < W.heap.size from Nat.lt_of_lt_of_le (hS b h) hbW.size))
    have g1 := Blk.new W 4 (flA zs n 0)
    have b1 := below1 W (Obj.cells (flA zs n 0) 4)
    rw [← flA_zero zs n] at hmk
    obtain ⟨w1, hw1⟩ : ∃ x, x = W.alloc (Obj.cells (flA zs n 0) 4) := ⟨_, rfl⟩
    rw [← hw1] at hmk g1 b1
    have G1 := hide g1
    have R1 := hide (R.out.below b1 R.out.lt)
    have B1 := hide (BW.out.trans (b1.mono BW.out.size))
    have ha2 := hide (ha1.out.below b1 hSW.out)
    have hS2 := hide (fun b (h : S b) => (show b < W.heap.size from hSW.out b h))
    have hgw := hide (show w.heap.size < W.heap.size from hsW.out)
    obtain ⟨g, hg⟩ : ∃ g, g = W.heap.size := ⟨_, rfl⟩
    rw [← hg] at G1 hgw hS2 hmk
    replace hz := hide hz
    clear ha hS hbW g1 b1 ha1 hSW hsW hw1 hg
    go_enter Try.func91, Try.ntmps91
    go_upto_region 1 with fail
    rw [← hW]
    clear hW
    go_wp2_with fail
    clear hmk
    go_loopw [19] (fun i wr => ∃ k : Nat, k ≤ n ∧ i = .int .i64 k ∧ Hid (seenOk zs n k) ∧ Hid (Blk wr g 4 (flA zs n k)) ∧ Hid (Blk wr w.heap.size 110 #[.slice none 0 0, .nilFunc]) ∧ Hid (Below w.heap.size w wr) ∧ Hid (Below w1.heap.size w1 wr ∨ True) ∧ Hid (IntsAt wr S A zs)) (fun i _ => n - (intOf i).toNat)
    case atStart => exact ⟨0, Nat.zero_le _, rfl, hide (seenOk_zero _ _), G1, R1, B1, hide (.inr trivial), ha2⟩
    case round =>
      clear G1 R1 B1 ha2
      obtain ⟨k, hk, rfl, K0, G0, R0, B0, -, a0⟩ := hrel
      by_cases hlt : k < n
      · have hlt' : decide ((k : Int) < (n : Int)) = true := decide_eq_true (by omega)
        have hkn : k < n := hlt
        obtain ⟨b, off, rfl, hbS, hc⟩ := a0.out.2 (by rw [hz.out]; omega)
        have hcell := hc k (by rw [hz.out]; exact hlt)
        have hout := hide (fun h => order_out (l := zs) (n := n) (k := k) (by rw [hz.out]; exact hlt) h)
        have hagain := hide (fun h => order_again (l := zs) (n := n) (k := k) (by rw [hz.out]; exact hlt) h)
        have hnext := hide (fun h0 h1 => seenOk_succ K0.out (by rw [hz.out]; exact hlt) h0 h1)
        have hset := hide (fun x h => flA_succ zs n k x (by rw [hz.out]; exact hlt) h)
        obtain ⟨z, hzz⟩ : ∃ z, z = geti zs k := ⟨_, rfl⟩
        rw [← hzz] at hcell hout hagain hnext hset
        clear hc hzz
        by_cases h0 : z < 0
        · have hE := hide (show res = false from by rw [hres.out]; exact hout.out (by omega))
          have h0' : decide (z < 0) = true := decide_eq_true h0
          obtain ⟨r0, r1⟩ := (show wr.cell? ⟨w.heap.size, 0, none⟩ = some (.slice none 0 0) ∧ wr.cell? ⟨w.heap.size, 1, none⟩ = some .nilFunc from ⟨R0.out.cell 0, R0.out.cell 1⟩)
          obtain ⟨r2, r3⟩ := (show wr.frozen? ⟨w.heap.size, 0, none⟩ = false ∧ wr.frozen? ⟨w.heap.size, 1, none⟩ = false from ⟨R0.out.frozen 0, R0.out.frozen 1⟩)
          have lR := R0.out.lt
          go_wp2_with fail
          refine bodyPost_ret (v := .tuple #[.agg #[.slice none 0 0, .nilFunc], .bool false]) (by simp [results, Try.results91, go_sem, r0, r1]; done) rfl ?_
          rw [hE.out]
          exact ⟨_, rfl, rfl, (B0.out.setCell (p := ⟨w.heap.size, 0, none⟩) (Nat.le_refl _) _).setCell (p := ⟨w.heap.size, 1, none⟩) (Nat.le_refl _) _⟩
        · have h0' : decide (z < 0) = false := decide_eq_false h0
          by_cases h1 : (n : Int) ≤ z
          · have hE := hide (show res = false from by rw [hres.out]; exact hout.out (by omega))
            have h1' : decide ((n : Int) ≤ z) = true := decide_eq_true h1
            obtain ⟨r0, r1⟩ := (show wr.cell? ⟨w.heap.size, 0, none⟩ = some (.slice none 0 0) ∧ wr.cell? ⟨w.heap.size, 1, none⟩ = some .nilFunc from ⟨R0.out.cell 0, R0.out.cell 1⟩)
            obtain ⟨r2, r3⟩ := (show wr.frozen? ⟨w.heap.size, 0, none⟩ = false ∧ wr.frozen? ⟨w.heap.size, 1, none⟩ = false from ⟨R0.out.frozen 0, R0.out.frozen 1⟩)
            have lR := R0.out.lt
            go_wp2_with fail
            refine bodyPost_ret (v := .tuple #[.agg #[.slice none 0 0, .nilFunc], .bool false]) (by simp [results, Try.results91, go_sem, r0, r1]; done) rfl ?_
            rw [hE.out]
            exact ⟨_, rfl, rfl, (B0.out.setCell (p := ⟨w.heap.size, 0, none⟩) (Nat.le_refl _) _).setCell (p := ⟨w.heap.size, 1, none⟩) (Nat.le_refl _) _⟩
          · have h1' : decide ((n : Int) ≤ z) = false := decide_eq_false h1
            obtain ⟨y, rfl⟩ : ∃ y : Nat, z = (y : Int) := ⟨z.toNat, by omega⟩
            have hyn : y < n := by omega
            have hyn' : (y : Int) < (n : Int) := by omega
            have f0 := (G0.out.cell y).trans (flA_get zs n k y hyn)
            have f1 := G0.out.frozen y
            have fl := G0.out.lt
            cases hb : decide ((y : Int) ∈ zs.take k)
            · rw [hb] at f0
              have K1 := hide (hnext.out ⟨by omega, by omega⟩ (of_decide_eq_false hb))
              have G2 := hide (show Blk (wr.setCell ⟨g, y, none⟩ (.bool true)) g 4 (flA zs n (k + 1)) from by
                rw [hset.out y rfl]
                exact G0.out.set_ y (.bool true))
              have R2 := hide (R0.out.far (p := ⟨g, y, none⟩) (by have := hgw.out; show w.heap.size ≠ g; omega) (.bool true))
              have B2 := hide (B0.out.setCell (p := ⟨g, y, none⟩) (by have := hgw.out; show w.heap.size ≤ g; omega) (.bool true))
              have a2 := hide (show IntsAt (wr.setCell ⟨g, y, none⟩ (.bool true)) S (some ⟨b, off, none⟩) zs from a0.out.set (p := ⟨g, y, none⟩) (.bool true) (fun h => Nat.lt_irrefl _ (hS2.out _ h)))
              clear hb K0 hnext hset hagain hout hres
              go_wp2_with fail
              go_roundw
              case rel => exact ⟨k + 1, by omega, by go_num, K1, G2, R2, B2, hide (.inr trivial), a2⟩
              case measure => simp [intOf]; omega
            · rw [hb] at f0
              have hE := hide (show res = false from by rw [hres.out]; exact hagain.out (of_decide_eq_true hb))
              clear hb
              obtain ⟨r0, r1⟩ := (show wr.cell? ⟨w.heap.size, 0, none⟩ = some (.slice none 0 0) ∧ wr.cell? ⟨w.heap.size, 1, none⟩ = some .nilFunc from ⟨R0.out.cell 0, R0.out.cell 1⟩)
              obtain ⟨r2, r3⟩ := (show wr.frozen? ⟨w.heap.size, 0, none⟩ = false ∧ wr.frozen? ⟨w.heap.size, 1, none⟩ = false from ⟨R0.out.frozen 0, R0.out.frozen 1⟩)
              have lR := R0.out.lt
              go_wp2_with fail
              refine bodyPost_ret (v := .tuple #[.agg #[.slice none 0 0, .nilFunc], .bool false]) (by simp [results, Try.results91, go_sem, r0, r1]; done) rfl ?_
              rw [hE.out]
              exact ⟨_, rfl, rfl, (B0.out.setCell (p := ⟨w.heap.size, 0, none⟩) (Nat.le_refl _) _).setCell (p := ⟨w.heap.size, 1, none⟩) (Nat.le_refl _) _⟩
      · obtain rfl : k = n := by omega
        have hlt' : decide ((k : Int) < (k : Int)) = false := decide_eq_false (by omega)
        have hE := hide (show res = true from by rw [hres.out]; exact seenOk_all hz.out K0.out)
        obtain ⟨r0, r1⟩ := (show wr.cell? ⟨w.heap.size, 0, none⟩ = some (.slice none 0 0) ∧ wr.cell? ⟨w.heap.size, 1, none⟩ = some .nilFunc from ⟨R0.out.cell 0, R0.out.cell 1⟩)
        obtain ⟨r2, r3⟩ := (show wr.frozen? ⟨w.heap.size, 0, none⟩ = false ∧ wr.frozen? ⟨w.heap.size, 1, none⟩ = false from ⟨R0.out.frozen 0, R0.out.frozen 1⟩)
        have lR := R0.out.lt
        go_wp2_with fail
        refine bodyPost_ret (v := .tuple #[.agg #[.slice A k c, .func (.func G) #[x] #[]], .bool true]) (by simp [results, Try.results91, go_sem, r0, r1]; done) rfl ?_
        rw [hE.out]
        exact ⟨_, rfl, rfl, (B0.out.setCell (p := ⟨w.heap.size, 0, none⟩) (Nat.le_refl _) _).setCell (p := ⟨w.heap.size, 1, none⟩) (Nat.le_refl _) _⟩
  · have hE := hide (show res = false from by rw [hres.out]; exact order_len (by rw [hz]; exact hnm))
    have hne : ((n : Int) != (m : Int)) = true := by simp; omega
    clear hz ha hS hnm hbW hsW
    go_enter Try.func91, Try.ntmps91
    go_upto_region 1 with fail
    rw [← hW]
    clear hW
    obtain ⟨r0, r1⟩ := (show W.cell? ⟨w.heap.size, 0, none⟩ = some (.slice none 0 0) ∧ W.cell? ⟨w.heap.size, 1, none⟩ = some .nilFunc from ⟨R.out.cell 0, R.out.cell 1⟩)
    obtain ⟨r2, r3⟩ := (show W.frozen? ⟨w.heap.size, 0, none⟩ = false ∧ W.frozen? ⟨w.heap.size, 1, none⟩ = false from ⟨R.out.frozen 0, R.out.frozen 1⟩)
    have lR := R.out.lt
    go_wp2_with fail
    refine bodyPost_ret (v := .tuple #[.agg #[.slice none 0 0, .nilFunc], .bool false]) (by simp [results, Try.results91, go_sem, r0, r1]; done) rfl ?_
    rw [hE.out]
    exact ⟨_, rfl, rfl, (BW.out.setCell (p := ⟨w.heap.size, 0, none⟩) (Nat.le_refl _) _).setCell (p := ⟨w.heap.size, 1, none⟩) (Nat.le_refl _) _⟩
end Go.Proofs.Ytjendjbbhohjcaa
