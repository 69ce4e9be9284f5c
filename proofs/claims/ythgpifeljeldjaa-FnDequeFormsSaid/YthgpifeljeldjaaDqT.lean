/- The program's stealsOk, dequeInit, thief. -/
import Derived.Test.YthgpifeljeldjaaDqP
import Derived.Test.YthgpifeljeldjaaDqI
namespace Go.Proofs.Ythgpifeljeldjaa
open Go.RowKit

set_option maxHeartbeats 1600000 in
theorem stealsOk_any (A : Option Addr) (zs : List Int) (c : Nat) (S : Nat → Prop) (w : World) (ha : IntsAt w S A zs) : Calls Try.prog 42 #[.slice A zs.length c] w fun e w' => e = .returned (.bool (decide (zs.length ≤ 2) && stealsB zs zs.length)) ∧ w = w' := by
  obtain ⟨res, hres⟩ : ∃ res, res = (decide (zs.length ≤ 2) && stealsB zs zs.length) := ⟨_, rfl⟩
  rw [← hres]
  replace hres := hide hres
  have hzl := ha.1
  by_cases h2 : zs.length ≤ 2
  · go_enter Try.func42, Try.ntmps42
    go_wp2_with fail
    go_loop [10] (fun i => ∃ k : Nat, k ≤ zs.length ∧ i = .int .i64 k ∧ Hid (∀ j, j < k → 1 ≤ geti zs j ∧ geti zs j ≤ 2)) (fun i => zs.length - (intOf i).toNat)
    case atStart => exact ⟨0, Nat.zero_le _, rfl, hide (fun j hj => by omega)⟩
    case round =>
      obtain ⟨k, hk, rfl, hall⟩ := hrel
      by_cases hlt : k < zs.length
      · obtain ⟨b, off, rfl, -, hc⟩ := ha.2 (by omega)
        have hcell := hc k hlt
        obtain ⟨z, hz⟩ : ∃ z, z = geti zs k := ⟨_, rfl⟩
        rw [← hz] at hcell
        replace hz := hide hz
        clear hc
        by_cases h1 : 1 ≤ z ∧ z ≤ 2
        · obtain ⟨h10, h11⟩ := h1
          go_wp2_with fail
          go_round
          case rel => exact ⟨k + 1, by omega, by go_num, hide (fun j hj => by
            rcases Nat.lt_or_ge j k with h | h
            · exact hall.out j h
            · have : j = k := by omega
              subst this; rw [← hz.out]; exact ⟨h10, h11⟩)⟩
          case measure => simp [intOf]; omega
        · have hE := hide (show res = false from by
            rw [hres.out]
            unfold stealsB
            rw [allB_no hlt (decide_eq_false (by rw [← hz.out]; exact h1)), Bool.and_false])
          by_cases h10 : z < 1
          · go_wp2_with fail
            go_ret
            exact ⟨ret_bool hE.out.symm, rfl⟩
          · have h11 : 2 < z := by omega
            go_wp2_with fail
            go_ret
            exact ⟨ret_bool hE.out.symm, rfl⟩
      · obtain rfl : k = zs.length := by omega
        have hE := hide (show res = true from by
          rw [hres.out]
          unfold stealsB
          rw [allB_yes (fun j hj => decide_eq_true (hall.out j hj)), decide_eq_true h2]
          rfl)
        clear hall
        go_wp2_with fail
        go_ret
        exact ⟨ret_bool hE.out.symm, rfl⟩
  · have hE := hide (show res = false from by rw [hres.out, decide_eq_false h2, Bool.false_and])
    go_enter Try.func42, Try.ntmps42
    go_wp2_with fail
    go_ret
    exact ⟨ret_bool hE.out.symm, rfl⟩

/-- The cells, as far as they have been filled. -/
def arrI (z : Int) (k : Nat) : Array Value := #[.int .i64 0, .int .i64 z, .int .i64 (if 0 < k then 11 else 0), .int .i64 (if 1 < k then 12 else 0), .int .i64 (if 2 < k then 13 else 0), .int .i64 (if 3 < k then 14 else 0)]
theorem arrI_init {z : Int} {k : Nat} (h : z = k) (h1 : 1 ≤ k) (h4 : k ≤ 4) : (arrI z k).toList = (initI z 4).map (Value.int .i64) := by
  subst h
  have : k = 1 ∨ k = 2 ∨ k = 3 ∨ k = 4 := by omega
  rcases this with rfl | rfl | rfl | rfl <;> rfl
theorem own_blk {w : World} {B q n size : Nat} {e : TypeId} {cs : Array Value} (h : Blk w q e cs) (hB : B ≤ q) (hn : n ≤ 1000) (hs : cs.size = n * size) : w.ownsRow B e size (.slice (some ⟨q, 0, none⟩) n n) n cs.toList :=
  ⟨by simpa using hs, .inr ⟨_, n, cs, rfl, hB, h, Nat.le_refl _, by have : maxLen = 9223372036854775807 := rfl; omega, hs, List.take_of_length_le (by simp [hs])⟩⟩
theorem zrow6 : zrow #[.int .i64 0] 6 = #[.int .i64 0, .int .i64 0, .int .i64 0, .int .i64 0, .int .i64 0, .int .i64 0] := by
  unfold zrow madeCells
  rw [show Array.range 6 = #[0, 1, 2, 3, 4, 5] from by decide]
  simp [Nat.mod_one]
set_option maxRecDepth 100000 in
set_option maxHeartbeats 3200000 in
theorem dequeInit_any (z : Int) (w : World) (h1 : 1 ≤ z) (h4 : z ≤ 4) : Calls Try.prog 44 #[.int .i64 z] w fun e w' => ∃ q, e = .returned (.slice (some ⟨q, 0, none⟩) 6 6) ∧ w'.ownsRow w.heap.size 3 1 (.slice (some ⟨q, 0, none⟩) 6 6) 6 ((initI z 4).map (Value.int .i64)) ∧ Below w.heap.size w w' := by
  have hmk : (Instr.makeSlice 23 (.int .i64 6) (.int .i64 6)).run Try.prog w = .ok (.slice (some ⟨w.heap.size, 0, none⟩) 6 6) (w.alloc (.cells #[.int .i64 0, .int .i64 0, .int .i64 0, .int .i64 0, .int .i64 0, .int .i64 0] 3)) := by
    have h := make_ints 6 (by omega) w
    rw [zrow6] at h
    exact h
  have X0 := Blk.new w 3 #[.int .i64 0, .int .i64 0, .int .i64 0, .int .i64 0, .int .i64 0, .int .i64 0]
  have b0 := below1 w (Obj.cells #[.int .i64 0, .int .i64 0, .int .i64 0, .int .i64 0, .int .i64 0, .int .i64 0] 3)
  obtain ⟨w0, hw0⟩ : ∃ x, x = w.alloc (Obj.cells #[.int .i64 0, .int .i64 0, .int .i64 0, .int .i64 0, .int .i64 0, .int .i64 0] 3) := ⟨_, rfl⟩
  rw [← hw0] at X0 b0
  have X1 := hide (show Blk (w0.setCell ⟨w.heap.size, 1, none⟩ (.int .i64 z)) w.heap.size 3 (arrI z 0) from X0.set_ 1 (.int .i64 z))
  have B1 := hide (b0.setCell (p := ⟨w.heap.size, 1, none⟩) (Nat.le_refl _) (.int .i64 z))
  have c1 : w0.cell? ⟨w.heap.size, 1, none⟩ = some (.int .i64 0) := X0.cell 1
  have f1 := X0.frozen 1
  have hl := X0.lt
  clear X0 b0
  go_enter Try.func44, Try.ntmps44
  go_upto_region 2 with fail
  rw [← hw0]
  clear hw0 hmk
  go_wp2_with fail
  go_loopw [10] (fun i wr => ∃ k : Nat, k ≤ 4 ∧ (k : Int) ≤ z ∧ i = .int .i64 k ∧ Hid (Blk wr w.heap.size 3 (arrI z k)) ∧ Hid (Below w.heap.size w wr)) (fun i _ => 4 - (intOf i).toNat)
  case atStart => exact ⟨0, by omega, by omega, rfl, X1, B1⟩
  case round =>
    clear X1 B1 c1 f1 hl
    obtain ⟨k, hk, hkz, rfl, X, B⟩ := hrel
    by_cases hlt : (k : Int) < z
    · have hl := X.out.lt
      have hf := X.out.frozen (2 + k)
      have hx : ∃ u, wr.cell? ⟨w.heap.size, 2 + k, none⟩ = some u := by
        have : k = 0 ∨ k = 1 ∨ k = 2 ∨ k = 3 := by omega
        rcases this with rfl | rfl | rfl | rfl <;> exact ⟨_, X.out.cell _⟩
      obtain ⟨u, hu⟩ := hx
      have X2 := hide (show Blk (wr.setCell ⟨w.heap.size, 2 + k, none⟩ (.int .i64 (11 + (k : Int)))) w.heap.size 3 (arrI z (k + 1)) from by
        have := X.out.set_ (2 + k) (.int .i64 (11 + (k : Int)))
        have h : k = 0 ∨ k = 1 ∨ k = 2 ∨ k = 3 := by omega
        rcases h with rfl | rfl | rfl | rfl <;> exact this)
      have B2 := hide (B.out.setCell (p := ⟨w.heap.size, 2 + k, none⟩) (Nat.le_refl _) (.int .i64 (11 + (k : Int))))
      have hn : IntKind.i64.wrap ((2 : Int) + (k : Int)) = ((2 + k : Nat) : Int) := by rw [IntKind.wrap_i64]; omega
      have hn2 : IntKind.i64.wrap ((11 : Int) + (k : Int)) = 11 + (k : Int) := by rw [IntKind.wrap_i64]; omega
      have hk3 : k ≤ 3 := by omega
      clear X B
      go_wp2_with fail
      go_roundw
      case rel => exact ⟨k + 1, by omega, by omega, by go_num, X2, B2⟩
      case measure => simp [intOf]; omega
    · have hlt' : decide ((k : Int) < z) = false := decide_eq_false hlt
      have hO := hide (own_blk (size := 1) (n := 6) X.out (Nat.le_refl w.heap.size) (by omega) (by rfl))
      have hI := hide (arrI_init (show z = k by omega) (by omega) hk)
      rw [hI.out] at hO
      go_wp2_with fail
      go_ret
      exact ⟨_, rfl, hO.out, B.out⟩

/-- Parts in the making since the world W: a row of slices, each of a row of its own. -/
structure PartG (W : World) (v : Value) (ps : List (List InsD)) (us : List Value) (w : World) : Prop where
  rows : w.ownsRow W.heap.size 40 1 v ps.length us
  each : ∀ k, k < ps.length → w.ownsRow W.heap.size 71 6 (vat us k) (gett ps k).length (flat (gett ps k))
  low : Below W.heap.size W w
section
variable {W w w1 w2 : World} {v v' u : Value} {ps : List (List InsD)} {us : List Value} {l : List InsD}
theorem PartG.nil (W : World) : PartG W (.slice none 0 0) [] [] W := ⟨⟨rfl, .inl ⟨rfl, rfl⟩⟩, fun k hk => by simp at hk, Below.refl _ _⟩
theorem PartG.len (h : PartG W v ps us w) : us.length = ps.length := by simpa using h.rows.1
theorem PartG.next (h : PartG W v ps us w) (hb : Below w.heap.size w w1) : PartG W v ps us w1 :=
  ⟨own_keep h.rows (fun b _ hlt => hb.block b hlt), fun k hk => own_keep (h.each k hk) (fun b _ hlt => hb.block b hlt), h.low.trans (hb.mono h.low.size)⟩
/-- A part more. -/
theorem PartG.more (h : PartG W v ps us w) (hu : w.ownsRow W.heap.size 71 6 u l.length (flat l)) (ho : w1.ownsRow W.heap.size 40 1 v' (ps.length + 1) (us ++ [u])) (hg : w.grownBy w1 v.ownBlock) : PartG W v' (ps ++ [l]) (us ++ [u]) w1 := by
  have hl := h.len
  refine ⟨by simpa using ho, fun k hk => ?_, ?_⟩
  · simp only [List.length_append, List.length_singleton] at hk
    rw [vat_append, gett_append, hl]
    by_cases e : k < ps.length
    · rw [if_pos e, if_pos e]
      exact own_grown (h.each k e) hg (apart_type (h.each k e) h.rows (by decide))
    · rw [if_neg e, if_neg e, if_pos (by omega), if_pos (by omega)]
      exact own_grown hu hg (apart_type hu h.rows (by decide))
  · have hz := h.low.size
    exact ⟨hg.os.trans h.low.os, hg.tape.trans h.low.tape, hg.output.trans h.low.output, Nat.le_trans h.low.size hg.size, fun j hj => (hg.block j (by omega) (fun e => by have := (own_lt h.rows e.symm).1; omega)).trans (h.low.block j hj)⟩
theorem PartG.threads {A : Option Addr} {c : Nat} (h : PartG W (.slice A ps.length c) ps us w) (hn : ps.length ≤ 1000) : ThreadsAt w (Old w.heap.size) A ps := by
  refine ⟨by omega, fun hp => ?_⟩
  rcases h.rows.2 with ⟨_, h0⟩ | ⟨q, cap, cur, hv, hb, hh, hcap, hmax, hcs, ht⟩
  · omega
  · cases hv
    have hlt : q < w.heap.size := by
      rcases Nat.lt_or_ge q w.heap.size with hlt | hge
      · exact hlt
      · rw [Array.getElem?_eq_none hge] at hh; cases hh
    refine ⟨q, 0, rfl, hlt, fun k hk => ?_⟩
    have hl := h.len
    obtain ⟨A3, c3, e3, hc3, hin⟩ := own_inss (h.each k hk)
    refine ⟨A3, c3, ?_, hc3, hin.more (fun b hb => hb.2.2)⟩
    rw [cell_of_row w q _ cur _ (0, 0) hh, Nat.zero_add, ← Array.getElem?_toList]
    have h1 : cur.toList[k]? = us[k]? := by rw [← ht, List.getElem?_take, if_pos (by omega)]
    rw [h1, ← e3, vat, List.getD_eq_getElem?_getD, List.getElem?_eq_getElem (show k < us.length by omega)]
    rfl
end
/-- The first k steals. -/
def psT (b : Bool) (k : Nat) : List (List InsD) := (List.range k).map fun (r : Nat) => stealI (r : Int) b
theorem psT_succ (b : Bool) (k : Nat) : psT b (k + 1) = psT b k ++ [stealI (k : Int) b] := by unfold psT; rw [List.range_succ, List.map_append]; rfl
theorem psT_len (b : Bool) (k : Nat) : (psT b k).length = k := by simp [psT]
theorem thief_join {z : Int} {k : Nat} (b : Bool) (h : z = k) (h1 : 1 ≤ k) (h2 : k ≤ 2) : joinTo (psT b k) (psT b k).length = thiefI z b := by
  have : k = 1 ∨ k = 2 := by omega
  rcases this with rfl | rfl
  · exact thief_one z b h
  · exact thief_two z b h
theorem stealI_small (r : Int) (b : Bool) : SmallN (stealI r b) := by unfold SmallN stealI lookL fenL stealT; cases b <;> simp
theorem psT_small (b : Bool) (k j : Nat) (hj : j < (psT b k).length) : ∀ d ∈ gett (psT b k) j, -1000000 ≤ d.n ∧ d.n ≤ 1000000 := by
  rw [psT_len] at hj
  have : gett (psT b k) j = stealI (j : Int) b := by
    unfold gett psT
    rw [List.getD_eq_getElem?_getD, List.getElem?_map, List.getElem?_range hj]
    rfl
  rw [this]
  exact stealI_small _ _
theorem Try.infoParts : (Try.prog.info? 40).map (fun i => (i.zero, i.size, i.bytes)) = some (some (.slice none 0 0), 1, 24) := by kernel_rfl
set_option maxRecDepth 100000 in
set_option maxHeartbeats 6400000 in
theorem thief_any (z f : Int) (w : World) (h1 : 1 ≤ z) (h2 : z ≤ 2) (hf : 0 ≤ f ∧ f ≤ 3) : Calls Try.prog 45 #[.int .i64 z, .int .i64 f] w fun e w' => ThrR w w' e (thiefI z (stB f)) := by
  obtain ⟨i2, hi2, hx0, hx1, hx2⟩ := info_parts Try.infoParts
  replace hi2 := hide hi2
  have kS := hide (fun (r : Int) (h : 0 ≤ r ∧ r ≤ 1) w => psteal_yes r f w (by unfold rfB; exact decide_eq_true ⟨h.1, h.2, hf.1, hf.2⟩))
  obtain ⟨b, hb⟩ : ∃ b, b = stB f := ⟨_, rfl⟩
  rw [← hb] at kS ⊢
  clear hf hb
  obtain ⟨W, hW⟩ : ∃ W, W = w.alloc (Obj.cells #[.slice none 0 0] 66) := ⟨_, rfl⟩
  have hbW : Below w.heap.size w W := by rw [hW]; exact below1 _ _
  have X := hide (show Blk W w.heap.size 66 #[.slice none 0 0] from by rw [hW]; exact Blk.new _ _ _)
  have hBW := hide hbW
  clear hbW
  go_enter Try.func45, Try.ntmps45
  go_wp2_with fail
  rw [← hW]
  clear hW
  go_loopw [5, 8] (fun t i wr => ∃ (k n : Nat) (A : Option Addr) (c : Nat) (us : List Value), k ≤ 2 ∧ (k : Int) ≤ z ∧ i = .int .i64 k ∧ t = .slice A n c ∧ Hid (n = k) ∧ Hid (PartG W (.slice A (psT b k).length c) (psT b k) us wr)) (fun _ i _ => 2 - (intOf i).toNat)
  case atStart => exact ⟨0, 0, none, 0, [], by omega, by omega, rfl, rfl, hide rfl, hide (PartG.nil W)⟩
  case round =>
    obtain ⟨k, n, A1, c1, us, hk, hkz, rfl, rfl, hnk, H0⟩ := hrel
    by_cases hlt : (k : Int) < z
    · have hlt' : decide ((k : Int) < z) = true := decide_eq_true hlt
      go_wp2_with fail
      refine (kS.out (k : Int) (by omega) _).mono ?_
      rintro e w1 hr
      obtain ⟨A2, c2, rfl, ho, hb1⟩ := hr
      have H1 := hide (H0.out.next hb1)
      have O1 := hide (own_base ho H0.out.low.size)
      clear ho hb1 H0
      obtain ⟨l, hl⟩ : ∃ l, l = stealI (k : Int) b := ⟨_, rfl⟩
      rw [← hl] at O1 ⊢
      replace hl := hide hl
      have H2 := hide (H1.out.next (below1 w1 (Obj.cells #[Value.slice A2 l.length c2] 40)))
      have O2 := hide (own_keep O1.out (fun b _ hlt => (below1 w1 (Obj.cells #[Value.slice A2 l.length c2] 40)).block b hlt))
      have hsz := H1.out.low.size
      have hR : (w1.alloc (Obj.cells #[Value.slice A2 l.length c2] 40)).ownsRow W.heap.size 40 1 (.slice A1 n c1) n us := by have := H2.out.rows; rw [psT_len, ← hnk.out] at this; exact this
      replace hR := hide hR
      have hn2 : n ≤ 2 := by rw [hnk.out]; exact hk
      go_wp2_with (at_builtin; refine wpList_append_lies _ rfl _ _ _ rfl W.heap.size 40 i2 _ 1 24 Try.underlying81 hi2.out hx0 hx1 hx2 rfl (by omega) (.slice A1 n c1) n us rfl hR.out ⟨w1.heap.size, 0, none⟩ 1 1 [Value.slice A2 l.length c2] rfl rfl (World.news_of_block (cs := #[Value.slice A2 l.length c2]) (t := 40) (fr := (0, 0)) (heap_alloc_new _ _)) (by simp [Value.oneCell']) (by omega) (by have : maxLen = 9223372036854775807 := rfl; omega) (by omega) (by simp; omega) _ rfl ?_)
      intro g3 cap3 w3 hown3 hg3 hat3 hlt3
      have H3 := hide (H2.out.more (l := l) O2.out (by rw [psT_len, ← hnk.out]; exact hown3) (by rw [psT_len, ← hnk.out]; exact hg3))
      have H4 := hide (show PartG W (.slice (some ⟨g3, 0, none⟩) (psT b (k + 1)).length cap3) (psT b (k + 1)) (us ++ [.slice A2 l.length c2]) w3 from by
        have := H3.out
        rw [hl.out, ← psT_succ, ← hl.out] at this
        rw [show (psT b (k + 1)).length = n + 1 from by rw [psT_len, hnk.out]]
        exact this)
      have hnk1 := hide (show n + 1 = k + 1 from by rw [hnk.out])
      clear hown3 hg3 hat3 hlt3 H1 H2 H3 O1 O2 hR hsz hl hnk
      go_wp2_with fail
      go_roundw
      case rel => exact ⟨k + 1, n + 1, _, _, _, by omega, by omega, by go_num, rfl, hnk1, H4⟩
      case measure => simp [intOf]; omega
    · have hlt' : decide ((k : Int) < z) = false := decide_eq_false hlt
      have hN : n = (psT b k).length := by rw [psT_len]; exact hnk.out
      have HJ := hide (joined_any A1 (psT b k) c1 (Old wr.heap.size) wr (fun _ h => h) (H0.out.threads (by rw [psT_len]; omega)) (by rw [thief_join b (show z = k by omega) (by omega) hk]; have := thiefI_len z b; omega) (psT_small b k))
      rw [thief_join b (show z = k by omega) (by omega) hk, ← hN] at HJ
      replace hN := hide hN
      have X1 := hide (X.out.below H0.out.low X.out.lt)
      have B1 := hide (hBW.out.trans (H0.out.low.mono hBW.out.size))
      clear H0 X hBW
      go_wp2_with fail
      refine HJ.out.mono ?_
      rintro e w4 ⟨A4, c4, rfl, ho4, hb4⟩
      have X4 := X1.out.below hb4 X1.out.lt
      have hx := X4.lt
      have x0 := X4.cell 0
      have f0 := X4.frozen 0
      simp only [List.getElem?_toArray, List.getElem?_cons_zero] at x0
      have X5 := hide (X4.set_ 0 (.slice A4 (thiefI z b).length c4))
      have B5 := hide ((B1.out.trans (hb4.mono B1.out.size)).setCell (p := ⟨w.heap.size, 0, none⟩) (Nat.le_refl _) (.slice A4 (thiefI z b).length c4))
      have O5 := hide (own_setFar (p := ⟨w.heap.size, 0, none⟩) ho4 (fun e => by
        have h1 := (own_lt ho4 e).1
        have h2 := X1.out.lt
        simp only at h1
        omega) (.slice A4 (thiefI z b).length c4))
      have hle := hide B1.out.size
      clear X4 ho4 hb4 X1 B1
      go_wp2_with fail
      have x5 := X5.out.cell 0
      refine bodyPost_ret (v := .agg #[.slice A4 (thiefI z b).length c4]) (by simp at x5; simp [results, Try.results45, go_sem, x5]; done) rfl ⟨A4, c4, rfl, own_base O5.out hle.out, B5.out⟩
end Go.Proofs.Ythgpifeljeldjaa
