/- The model's l2start: a beginning of KdOne and of KdBuf. -/
import Derived.Test.YtfkaacfeikmabaaMf0
import Derived.Test.YtfkaacfeikmabaaMf1
import Derived.Test.YtfkaacfeikmabaaMf8
import Derived.Test.YtfkaacfeikmabaaMf10
import Derived.Test.YtfkaacfeikmabaaMf11
import Derived.Deep.RegionLaw
import Derived.Deep.DeepCutAuto
import Derived.Deep.DrawnRows
namespace Go.Proofs.Ytfkaacfeikmabaa
open Go.RowKit

attribute [local go_sem ↓] Go.wp_at_zero Go.wp_at_succ

theorem Try.infoFileS : (Try.prog.info? 69).map (fun i => (i.zero, i.size, i.bytes)) = some (some (.agg #[.slice none 0 0]), 1, 24) := by kernel_rfl
def zerosS (n : Nat) : List Int := List.replicate n 0
theorem zerosS_len (n : Nat) : (zerosS n).length = n := by simp [zerosS]
theorem rowT_zeros {w : World} {q n : Nat} (h : Blk w q 3 (zrow #[.int .i64 0] n)) : RowT 3 w q (zerosS n) := by
  refine ⟨_, h, by rw [zerosS_len, zrow_size1]; exact Nat.le_refl _, fun k hk => ?_⟩
  rw [zerosS_len] at hk
  have h1 : geti (zerosS n) k = 0 := by simp [zerosS, geti, List.getD_eq_getElem?_getD, hk]
  rw [h1]
  show (zrow #[Value.int .i64 0] n)[k]? = some (Value.int .i64 0)
  unfold zrow madeCells
  simp [hk, Nat.mod_one]
def zrowD (q n : Nat) : RowD := ⟨q, q + 1, some ⟨q, 0, none⟩, n, n, zerosS n⟩
theorem zrowD_at {w : World} {q n : Nat} (h : RowT 3 w q (zerosS n)) : (zrowD q n).at_ 3 w := ⟨.inr ⟨q, n, rfl, h, Nat.le_refl _⟩, fun b hb => by simp [zrowD, Value.ownBlock] at hb; simp [zrowD]; omega⟩

def s2C (kd : Int) (q n2 : Nat) (fv : Value) : Array Value := #[.int .i64 kd, .slice (some ⟨q, 0, none⟩) n2 n2, fv, .slice none 0 0, .slice none 0 0, .slice none 0 0, .slice none 0 0, .slice none 0 0, .int .i64 0]
structure S2At (w0 : World) (kd : Int) (n2 : Nat) (P : Array Value) (fv : Value) (rs : List RowD) (w : World) : Prop where
  below : Below w0.heap.size w0 w
  box : Blk w w0.heap.size 31 P
  res : ∃ cs, Blk w (w0.heap.size + 1) 48 cs ∧ cs.size = 9
  pcs : RowT 3 w (w0.heap.size + 1 + 1) (zerosS n2)
  blk : Blk w (w0.heap.size + 1 + 1 + 1) 48 (s2C kd (w0.heap.size + 1 + 1) n2 fv)
  up : RowsUp 69 w (w0.heap.size + 1 + 1 + 1 + 1) fv rs
  six : ∀ k, k < rs.length → (getr rs k).n = 6 ∧ (getr rs k).zs = zerosS 6
section
variable {w0 w w' w1 : World} {kd : Int} {n2 : Nat} {P : Array Value} {fv fv' : Value} {rs : List RowD}
theorem S2At.next (h : S2At w0 kd n2 P fv rs w) (hb : Below w.heap.size w w') : S2At w0 kd n2 P fv rs w' :=
  ⟨below_then h.below hb, h.box.below hb h.box.lt, h.res.imp fun _ k => ⟨k.1.below hb k.1.lt, k.2⟩, h.pcs.below hb, h.blk.below hb h.blk.lt, h.up.next hb, h.six⟩
theorem S2At.alloc (h : S2At w0 kd n2 P fv rs w) (o : Obj) : S2At w0 kd n2 P fv rs (w.alloc o) := h.next (below1 w o)
theorem S2At.drew (h : S2At w0 kd n2 P fv rs w) : S2At w0 kd n2 P fv rs w.drew := h.next (Below.refl _ _).drew
theorem S2At.cells (h : S2At w0 kd n2 P fv rs w) : w.cell? ⟨w0.heap.size + 1 + 1 + 1, 2, none⟩ = some fv ∧ w.frozen? ⟨w0.heap.size + 1 + 1 + 1, 2, none⟩ = false := ⟨h.blk.cell 2, h.blk.frozen 2⟩
theorem S2At.grow (h : S2At w0 kd n2 P fv rs w) {q : Nat} (hq : RowT 3 w q (zerosS 6)) (hlo : ∀ k, k < rs.length → (getr rs k).hi ≤ q) (hq2 : w0.heap.size + 1 + 1 + 1 + 1 ≤ q) {xs : List Value} (hxs : xs = rs.map RowD.val ++ [.slice (some ⟨q, 0, none⟩) 6 6]) (ho : w1.ownsRow (w0.heap.size + 1 + 1 + 1 + 1) 69 1 fv' (rs.length + 1) xs) (hg : w.grownBy w1 fv.ownBlock) :
    (w1.cell? ⟨w0.heap.size + 1 + 1 + 1, 2, none⟩ = some fv ∧ w1.frozen? ⟨w0.heap.size + 1 + 1 + 1, 2, none⟩ = false) ∧ S2At w0 kd n2 P fv' (rs ++ [zrowD q 6]) (w1.setCell ⟨w0.heap.size + 1 + 1 + 1, 2, none⟩ fv') := by
  have hf : ∀ k, k < w0.heap.size + 1 + 1 + 1 + 1 → some k ≠ fv.ownBlock := fun _ hk => own_far h.up.own hk
  have hlt4 : ∀ {k : Nat} {t : TypeId} {cs : Array Value}, k < w0.heap.size + 1 + 1 + 1 + 1 → Blk w k t cs → Blk w1 k t cs := fun hk hb => (hg.block _ hb.lt (hf _ hk)).trans hb
  have hB := hlt4 (by omega) h.blk
  have hlow : Below w0.heap.size w w1 := ⟨hg.os, hg.tape, hg.output, hg.size, fun k hk => hg.block k (Nat.lt_of_lt_of_le hk h.below.size) (hf k (by omega))⟩
  have hup := h.up.more (by decide) (zrowD_at hq) hq2 hlo (by exact hq.lt) hxs ho hg
  refine ⟨⟨hB.cell 2, hB.frozen 2⟩, ⟨(h.below.trans hlow).setCell (by show w0.heap.size ≤ w0.heap.size + 1 + 1 + 1; omega) _, (hlt4 (by omega) h.box).far (by show w0.heap.size ≠ w0.heap.size + 1 + 1 + 1; omega) _, h.res.imp fun _ k => ⟨(hlt4 (by omega) k.1).far (by show w0.heap.size + 1 ≠ w0.heap.size + 1 + 1 + 1; omega) _, k.2⟩, ?_, ?_, hup.setCell (by show w0.heap.size + 1 + 1 + 1 < w0.heap.size + 1 + 1 + 1 + 1; omega) _, fun k hk => ?_⟩⟩
  · obtain ⟨cs, h1, h2⟩ := h.pcs
    exact ⟨cs, (hlt4 (by omega) h1).far (by show w0.heap.size + 1 + 1 ≠ w0.heap.size + 1 + 1 + 1; omega) _, h2⟩
  · have := hB.set_ 2 fv'
    simpa [s2C] using this
  · rcases getr_snoc rs _ k hk with ⟨hk', e⟩ | ⟨-, e⟩
    · rw [e]; exact h.six k hk'
    · rw [e]; exact ⟨rfl, rfl⟩
end

theorem iv_pair {l : List (Nat × Nat)} (h : l.Pairwise (fun x y => x.2 ≤ y.1 ∨ y.2 ≤ x.1)) : ∀ i j, i < j → j < l.length → (l.getD i (0, 0)).2 ≤ (l.getD j (0, 0)).1 ∨ (l.getD j (0, 0)).2 ≤ (l.getD i (0, 0)).1 := by
  intro i j hij hj
  rw [List.getD_eq_getElem?_getD, List.getD_eq_getElem?_getD, List.getElem?_eq_getElem hj, List.getElem?_eq_getElem (by omega)]
  exact List.pairwise_iff_getElem.1 h i j (by omega) hj hij
theorem StIn.keepIv {w w' : World} {s : StD} (h : StIn w s) (hs : w.heap.size ≤ w'.heap.size) (hk : ∀ i, i < 7 → ∀ b, (s.iv i).1 ≤ b → b < (s.iv i).2 → b < w.heap.size → w'.heap[b]? = w.heap[b]?) : StIn w' s :=
  ⟨⟨RvI.keep h.pc.1 (hk 0 (by omega)), h.pc.2⟩, ⟨h.F.1.keep (hk 1 (by omega)), h.F.2⟩, ⟨RvI.keep h.mem.1 (hk 2 (by omega)), h.mem.2⟩, ⟨h.bufs.1.keep (hk 3 (by omega)), h.bufs.2⟩, ⟨h.H.1.keep (hk 4 (by omega)), h.H.2⟩, ⟨h.view.1.keep (hk 5 (by omega)), h.view.2⟩, ⟨RvI.keep h.sc.1 (hk 6 (by omega)), h.sc.2⟩, h.apart, fun i hi => Nat.le_trans (h.bnd i hi) hs⟩
def s2Set (w : World) (g : Nat) (v0 v1 v2 v3 v4 v5 v6 v7 v8 : Value) : World := (((((((((w.setCell ⟨g, 0, none⟩ v0).setCell ⟨g, 1, none⟩ v1).setCell ⟨g, 2, none⟩ v2).setCell ⟨g, 3, none⟩ v3).setCell ⟨g, 4, none⟩ v4).setCell ⟨g, 5, none⟩ v5).setCell ⟨g, 6, none⟩ v6).setCell ⟨g, 7, none⟩ v7).setCell ⟨g, 8, none⟩ v8)
theorem s2Set_blk {w : World} {g : Nat} {u0 u1 u2 u3 u4 u5 u6 u7 u8 v0 v1 v2 v3 v4 v5 v6 v7 v8 : Value} (h : Blk w g 48 #[u0, u1, u2, u3, u4, u5, u6, u7, u8]) : Blk (s2Set w g v0 v1 v2 v3 v4 v5 v6 v7 v8) g 48 #[v0, v1, v2, v3, v4, v5, v6, v7, v8] := by
  have k := ((((((((h.set_ 0 v0).set_ 1 v1).set_ 2 v2).set_ 3 v3).set_ 4 v4).set_ 5 v5).set_ 6 v6).set_ 7 v7).set_ 8 v8
  unfold s2Set
  simpa using k
theorem s2Set_size (w : World) (g : Nat) (v0 v1 v2 v3 v4 v5 v6 v7 v8 : Value) : (s2Set w g v0 v1 v2 v3 v4 v5 v6 v7 v8).heap.size = w.heap.size := by unfold s2Set; simp
theorem s2Set_heap (w : World) (g : Nat) (v0 v1 v2 v3 v4 v5 v6 v7 v8 : Value) (b : Nat) (h : b ≠ g) : (s2Set w g v0 v1 v2 v3 v4 v5 v6 v7 v8).heap[b]? = w.heap[b]? := by
  unfold s2Set
  iterate 8 (refine (Below.heap_setCell _ _ _ _ (by exact h)).trans ?_)
  exact Below.heap_setCell _ _ _ _ (by exact h)
theorem s2Set_below {w0 w : World} {g : Nat} (hb : Below w0.heap.size w0 w) (hg : w0.heap.size ≤ g) (v0 v1 v2 v3 v4 v5 v6 v7 v8 : Value) : Below w0.heap.size w0 (s2Set w g v0 v1 v2 v3 v4 v5 v6 v7 v8) := by
  unfold s2Set
  iterate 9 (refine Below.setCell ?_ (by exact hg) _)
  exact hb
def nilRow (b : Nat) : RowD := ⟨b, b, none, 0, 0, []⟩
def nilRows (b : Nat) : RowsP := ⟨b, b, none, 0, 0, []⟩
def nilHists (b : Nat) : HistP := ⟨b, b, none, 0, 0, [], fun _ => 0, fun _ => 0, fun _ => 0, fun _ _ => 0⟩
theorem nilRow_ok (w : World) (b : Nat) : (nilRow b).ok w := ⟨⟨.inl ⟨rfl, rfl, rfl⟩, fun b hb => by simp [nilRow, Value.ownBlock] at hb⟩, rfl, by simp [nilRow]⟩
theorem nilRows_okF (w : World) (b : Nat) : (nilRows b).okF w := ⟨.inl rfl, rfl, by simp [nilRows], fun k hk => by simp [nilRows] at hk⟩
theorem nilRows_okB (w : World) (b : Nat) : (nilRows b).okB w := ⟨.inl rfl, rfl, by simp [nilRows], fun k hk => by simp [nilRows] at hk⟩
theorem nilHists_ok (w : World) (b : Nat) : (nilHists b).ok w := ⟨.inl rfl, rfl, by simp [nilHists, histSize, postLens]⟩
theorem getr_rep (n : Nat) (r : RowD) (k : Nat) (hk : k < n) : getr (List.replicate n r) k = r := by
  unfold getr
  rw [List.getD_eq_getElem?_getD, List.getElem?_replicate, if_pos hk]
  rfl
def startC (p : ProgD) (kd : Int) : StD := ⟨kd, ⟨0, 0, none, p.ts.length, 0, zerosS p.ts.length⟩, ⟨0, 0, none, p.ts.length, 0, List.replicate p.ts.length (zrowD 0 6)⟩, ⟨0, 0, none, p.init.length, 0, p.init⟩, if kd = 1 then ⟨0, 0, none, p.ts.length, 0, List.replicate p.ts.length row0⟩ else nilRows 0, nilHists 0, nilRows 0, nilRow 0, 0⟩
def s2W (w : World) (kd : Int) (n2 : Nat) (P : Array Value) : World := (((w.alloc (Obj.cells P 31)).alloc (Obj.cells #[.int .i64 0, .slice none 0 0, .slice none 0 0, .slice none 0 0, .slice none 0 0, .slice none 0 0, .slice none 0 0, .slice none 0 0, .int .i64 0] 48)).alloc (Obj.cells (zrow #[.int .i64 0] n2) 3)).alloc (Obj.cells (s2C kd (w.heap.size + 1 + 1) n2 (.slice none 0 0)) 48)
theorem S2At.start (w : World) (kd : Int) (n2 : Nat) (P : Array Value) : S2At w kd n2 P (.slice none 0 0) [] (s2W w kd n2 P) := by
  unfold s2W
  obtain ⟨w1, h1⟩ : ∃ q, q = w.alloc (Obj.cells P 31) := ⟨_, rfl⟩
  have b1 : Blk w1 w.heap.size 31 P := by rw [h1]; exact Blk.new _ _ _
  have l1 : Below w.heap.size w w1 := by rw [h1]; exact below1 _ _
  have s1 : w1.heap.size = w.heap.size + 1 := by rw [h1]; simp
  rw [← h1]
  clear h1
  have b2 := Blk.new w1 48 #[.int .i64 0, .slice none 0 0, .slice none 0 0, .slice none 0 0, .slice none 0 0, .slice none 0 0, .slice none 0 0, .slice none 0 0, .int .i64 0]
  rw [s1] at b2
  obtain ⟨w2, h2⟩ : ∃ q, q = w1.alloc (Obj.cells #[.int .i64 0, .slice none 0 0, .slice none 0 0, .slice none 0 0, .slice none 0 0, .slice none 0 0, .slice none 0 0, .slice none 0 0, .int .i64 0] 48) := ⟨_, rfl⟩
  have l2 : Below w1.heap.size w1 w2 := by rw [h2]; exact below1 _ _
  have s2 : w2.heap.size = w.heap.size + 1 + 1 := by rw [h2]; simp [s1]
  rw [← h2] at b2 ⊢
  clear h2
  have b3 := Blk.new w2 3 (zrow #[.int .i64 0] n2)
  rw [s2] at b3
  obtain ⟨w3, h3⟩ : ∃ q, q = w2.alloc (Obj.cells (zrow #[.int .i64 0] n2) 3) := ⟨_, rfl⟩
  have l3 : Below w2.heap.size w2 w3 := by rw [h3]; exact below1 _ _
  have s3 : w3.heap.size = w.heap.size + 1 + 1 + 1 := by rw [h3]; simp [s2]
  rw [← h3] at b3 ⊢
  clear h3
  have b4 := Blk.new w3 48 (s2C kd (w.heap.size + 1 + 1) n2 (.slice none 0 0))
  rw [s3] at b4
  have l4 := below1 w3 (Obj.cells (s2C kd (w.heap.size + 1 + 1) n2 (.slice none 0 0)) 48)
  exact ⟨below_then (below_then (below_then l1 l2) l3) l4, ((b1.below l2 b1.lt).below l3 (Nat.lt_of_lt_of_le b1.lt l2.size)).alloc _, ⟨_, (b2.below l3 b2.lt).alloc _, rfl⟩, rowT_zeros (b3.alloc _), b4, RowsUp.nil _ _ _, fun k hk => by simp at hk⟩

set_option maxRecDepth 100000 in
set_option maxHeartbeats 6400000 in
theorem l2start_01 (p : ProgD) (kd : Int) (A1 A2 : Option Addr) (c1 c2 n : Nat) (w : World) (hn : p.ts.length ≤ 3) (hs : n ≤ w.heap.size) (hz : p.init.length ≤ 6) (hi : IntsAt w (Old n) A1 p.init) (hk : kd = 0 ∨ kd = 1) :
    Calls Try.prog 81 #[.agg #[.slice A1 p.init.length c1, .slice A2 p.ts.length c2], .int .i64 kd] w fun e w' => ∃ d : StD, e = .returned (.agg d.cells) ∧ StIn w' d ∧ (∀ i, i < 7 → w.heap.size ≤ (d.iv i).1) ∧ SameSt (startC p kd) d ∧ Below w.heap.size w w' := by
  have hmk := make_ints p.ts.length (by omega)
  have hm6 : ∀ W : World, (Instr.makeSlice 22 (.int .i64 6) (.int .i64 6)).run Try.prog W = .ok (.slice (some ⟨W.heap.size, 0, none⟩) 6 6) (W.alloc (.cells (zrow #[.int .i64 0] 6) 3)) := fun W => make_ints 6 (by omega) W
  obtain ⟨i2, hi2, hx0, hx1, hx2⟩ := info_parts Try.infoFileS
  have hi2 := hide hi2
  go_enter Try.func81, Try.ntmps81
  go_wp2_with fail
  have S0 := S2At.start w kd p.ts.length #[.slice A1 p.init.length c1, .slice A2 p.ts.length c2]
  obtain ⟨w4, hw4⟩ : ∃ wq, wq = s2W w kd p.ts.length #[.slice A1 p.init.length c1, .slice A2 p.ts.length c2] := ⟨_, rfl⟩
  rw [← hw4] at S0
  unfold s2W s2C at hw4
  rw [← hw4]
  clear hw4
  go_loopw [6] (fun k wr => ∃ (rs : List RowD) (fv : Value), k = .int .i64 rs.length ∧ rs.length ≤ p.ts.length ∧ S2At w kd p.ts.length #[.slice A1 p.init.length c1, .slice A2 p.ts.length c2] fv rs wr) (fun k _ => (p.ts.length - intOf k).toNat)
  case atStart => exact ⟨[], _, rfl, Nat.zero_le _, S0⟩
  case round =>
    obtain ⟨rs, fv, rfl, hfl, h1⟩ := hrel
    have hs1 := h1.blk.lt
    have hs2 : w.heap.size + 1 + 1 < wr.heap.size := by omega
    have hs3 : w.heap.size + 1 < wr.heap.size := by omega
    have hbx1 := h1.box.lt
    have g1 : wr.cell? ⟨w.heap.size, 1, none⟩ = some (.slice A2 p.ts.length c2) := h1.box.cell 1
    obtain ⟨d1, d2⟩ := h1.cells
    clear S0
    by_cases hlt : rs.length < p.ts.length
    · have hlt' : (rs.length : Int) < (p.ts.length : Int) := by omega
      have h2 := h1.drew
      have hnew : ((wr.drew.alloc (.cells (zrow #[.int .i64 0] 6) 3)).alloc (.cells #[.slice (some ⟨wr.heap.size, 0, none⟩) 6 6] 69)).heap[wr.heap.size + 1]? = some (.cells #[.slice (some ⟨wr.heap.size, 0, none⟩) 6 6] 69 (0, 0)) := by
        have := heap_alloc_new (wr.drew.alloc (.cells (zrow #[.int .i64 0] 6) 3)) (.cells #[.slice (some ⟨wr.heap.size, 0, none⟩) 6 6] 69)
        rw [World.size_alloc] at this
        exact this
      go_wp2_with fail
      go_region_law (first
        | (refine step_append_lies _ (by rfl) _ _ _ (by rfl) (w.heap.size + 1 + 1 + 1 + 1) 69 i2 _ 1 24 Try.underlying44 hi2.out hx0 hx1 hx2 rfl (by omega) fv rs.length (rs.map RowD.val) (by rfl) ((h2.alloc (.cells (zrow #[.int .i64 0] 6) 3)).alloc _).up.own _ 1 1 [.slice (some ⟨wr.heap.size, 0, none⟩) 6 6] (by rfl) ?hl (World.news_of_block hnew) ?h1 (by omega) ?h63 ?hby ?hb _ (by rfl) ?_
           case hl => rfl
           case h1 => simp [Value.oneCell']
           case h63 => (have : maxLen = 9223372036854775807 := rfl); omega
           case hby => omega
           case hb => simp; omega
           intro gg cap w4 hown hgrow hat hlt4
           obtain ⟨⟨g0, g1⟩, h3⟩ := S2At.grow ((h2.alloc (.cells (zrow #[.int .i64 0] 6) 3)).alloc _) (rowT_zeros ((Blk.new wr.drew 3 (zrow #[.int .i64 0] 6)).alloc _)) (fun k hk => (h1.up.rng k hk).2) (by show w.heap.size + 1 + 1 + 1 + 1 ≤ wr.heap.size; omega) rfl hown hgrow))
      all_goals
        go_wp2_with fail
        go_roundw
        case rel => exact ⟨_, _, by simp, by simp; omega, h3⟩
        case measure => simp [intOf]; omega
    · obtain hre : rs.length = p.ts.length := by omega
      obtain ⟨A5, c5, rfl, hrow⟩ := h1.up.toI (Nat.le_refl _)
      have g0 : wr.cell? ⟨w.heap.size, 0, none⟩ = some (.slice A1 p.init.length c1) := h1.box.cell 0
      have hB0 := below1 wr (Obj.cells #[] 3)
      have hM0 := hide (hi.below (h1.below.trans (hB0.mono h1.below.size)) (fun b hb => Nat.lt_of_lt_of_le hb hs))
      obtain ⟨i1, hi1, hy0, hy1, hy2⟩ := info_parts Try.infoInt
      have hown0 := own_row (w := wr) (B := wr.heap.size) (e := 3) (size := 1) (n := 0) (cs := #[]) (by simp) (by omega) rfl
      replace hown0 := hide hown0
      have hkd : (kd == 2) = false := by rcases hk with rfl | rfl <;> rfl
      have H1 := hide h1
      have hrow := hide hrow
      rw [hre] at d1
      clear h1
      go_wp2_with (at_builtin; refine wpList_append_src _ rfl _ _ _ rfl wr.heap.size 3 i1 _ 1 8 Try.underlying22 hi1 hy0 hy1 hy2 rfl (by omega) (.slice (some ⟨wr.heap.size, 0, none⟩) 0 0) 0 [] rfl hown0.out (Old n) A1 p.init.length c1 p.init rfl (by simp) hM0.out (by have : maxLen = 9223372036854775807 := rfl; omega) (by omega) (by simp) ?_)
      intro A3 c3 w1 hown hgr _
      have hz1 := hgr.size
      simp only [World.size_alloc] at hz1
      have hlow := below_own (B := wr.heap.size) hgr (fun k hk e => by
        have e2 : wr.heap.size = k := by simpa [Value.ownBlock] using e.symm
        omega) (by simp)
      have hlw : Below wr.heap.size wr w1 := hB0.trans hlow
      have Q1 := hide (H1.out.next hlw)
      rw [hre] at Q1
      have M1 := hide (RvI.of (RvT.of_own (zs := p.init) (by simpa using hown)))
      have hrow1 := hide (hrow.out.next hlw)
      have hlt1 := Q1.out.blk.lt
      have hlt2 : w.heap.size + 1 + 1 < w1.heap.size := by omega
      have hlt3 : w.heap.size + 1 < w1.heap.size := by omega
      obtain ⟨rcs, rc, rsz⟩ := Q1.out.res
      obtain ⟨u0, u1, u2, u3, u4, u5, u6, u7, u8, rfl⟩ : ∃ u0 u1 u2 u3 u4 u5 u6 u7 u8 : Value, rcs = #[u0, u1, u2, u3, u4, u5, u6, u7, u8] := by
        obtain ⟨l⟩ := rcs
        match l, rsz with
        | [a, b, c, d, e, f, g, h, i], _ => exact ⟨a, b, c, d, e, f, g, h, i, rfl⟩
      have t0 : w1.cell? ⟨w.heap.size + 1 + 1 + 1, 0, none⟩ = some (.int .i64 kd) := Q1.out.blk.cell 0
      have t1 : w1.cell? ⟨w.heap.size + 1 + 1 + 1, 1, none⟩ = some (.slice (some ⟨w.heap.size + 1 + 1, 0, none⟩) p.ts.length p.ts.length) := Q1.out.blk.cell 1
      have t2 : w1.cell? ⟨w.heap.size + 1 + 1 + 1, 2, none⟩ = some (.slice A5 p.ts.length c5) := Q1.out.blk.cell 2
      have t3 : w1.cell? ⟨w.heap.size + 1 + 1 + 1, 3, none⟩ = some (.slice none 0 0) := Q1.out.blk.cell 3
      have t4 : w1.cell? ⟨w.heap.size + 1 + 1 + 1, 4, none⟩ = some (.slice none 0 0) := Q1.out.blk.cell 4
      have t5 : w1.cell? ⟨w.heap.size + 1 + 1 + 1, 5, none⟩ = some (.slice none 0 0) := Q1.out.blk.cell 5
      have t6 : w1.cell? ⟨w.heap.size + 1 + 1 + 1, 6, none⟩ = some (.slice none 0 0) := Q1.out.blk.cell 6
      have t7 : w1.cell? ⟨w.heap.size + 1 + 1 + 1, 7, none⟩ = some (.slice none 0 0) := Q1.out.blk.cell 7
      have t8 : w1.cell? ⟨w.heap.size + 1 + 1 + 1, 8, none⟩ = some (.int .i64 0) := Q1.out.blk.cell 8
      have f3 := Q1.out.blk.frozen 3
      have f4 := Q1.out.blk.frozen 4
      have r0 : w1.cell? ⟨w.heap.size + 1, 0, none⟩ = some u0 := rc.cell 0
      have z0 := rc.frozen 0
      have r1 : w1.cell? ⟨w.heap.size + 1, 1, none⟩ = some u1 := rc.cell 1
      have z1 := rc.frozen 1
      have r2 : w1.cell? ⟨w.heap.size + 1, 2, none⟩ = some u2 := rc.cell 2
      have z2 := rc.frozen 2
      have r3 : w1.cell? ⟨w.heap.size + 1, 3, none⟩ = some u3 := rc.cell 3
      have z3 := rc.frozen 3
      have r4 : w1.cell? ⟨w.heap.size + 1, 4, none⟩ = some u4 := rc.cell 4
      have z4 := rc.frozen 4
      have r5 : w1.cell? ⟨w.heap.size + 1, 5, none⟩ = some u5 := rc.cell 5
      have z5 := rc.frozen 5
      have r6 : w1.cell? ⟨w.heap.size + 1, 6, none⟩ = some u6 := rc.cell 6
      have z6 := rc.frozen 6
      have r7 : w1.cell? ⟨w.heap.size + 1, 7, none⟩ = some u7 := rc.cell 7
      have z7 := rc.frozen 7
      have r8 : w1.cell? ⟨w.heap.size + 1, 8, none⟩ = some u8 := rc.cell 8
      have z8 := rc.frozen 8
      clear hown hgr hlow d1 d2 g0 g1 hM0 hown0 hi1 hB0 hrow H1
      rcases hk with rfl | rfl
      · have rq := hide rc
        clear rc
        have hlen : ∀ k, k < rs.length → (getr rs k).zs.length = (getr rs k).n ∧ (getr rs k).n ≤ 1048576 := fun k hk => by
          obtain ⟨e1, e2⟩ := Q1.out.six k hk
          rw [e1, e2, zerosS_len]
          exact ⟨rfl, by omega⟩
        obtain ⟨d, hd⟩ : ∃ d : StD, d = ⟨0, ⟨w.heap.size + 1 + 1, w.heap.size + 1 + 1 + 1, some ⟨w.heap.size + 1 + 1, 0, none⟩, p.ts.length, p.ts.length, zerosS p.ts.length⟩, ⟨w.heap.size + 1 + 1 + 1 + 1, wr.heap.size, A5, p.ts.length, c5, rs⟩, ⟨wr.heap.size, w1.heap.size, A3, p.init.length, c3, p.init⟩, nilRows w.heap.size, nilHists w.heap.size, nilRows w.heap.size, nilRow w.heap.size, 0⟩ := ⟨_, rfl⟩
        have hIn := hide (show StIn w1 d from by
          subst hd
          refine ⟨⟨⟨.inr ⟨_, _, rfl, Q1.out.pcs, Nat.le_refl _⟩, fun b hb => ?_⟩, zerosS_len _, by show p.ts.length ≤ 1048576; omega⟩, ⟨hrow1.out, hre, by show p.ts.length ≤ 1048576; omega, hlen⟩, ⟨M1.out, rfl, by show p.init.length ≤ 1048576; omega⟩, nilRows_okB _ _, nilHists_ok _ _, nilRows_okF _ _, nilRow_ok _ _, ?_, ?_⟩
          · simp [Value.ownBlock] at hb
            show b < w.heap.size + 1 + 1 + 1
            omega
          · refine fun i j hij hj => iv_pair ?_ i j hij (by simpa using hj)
            simp [nilRow, nilRows, nilHists]
            omega
          · intro i hi
            have h7 : i = 0 ∨ i = 1 ∨ i = 2 ∨ i = 3 ∨ i = 4 ∨ i = 5 ∨ i = 6 := by omega
            rcases h7 with rfl | rfl | rfl | rfl | rfl | rfl | rfl <;> simp [StD.iv, nilRow, nilRows, nilHists] <;> omega)
        have hSame := hide (show SameSt (startC p 0) d from by
          subst hd
          refine ⟨rfl, ⟨rfl, rfl⟩, ⟨by simp [startC, hre], fun k hk => ?_⟩, ⟨rfl, rfl⟩, ⟨rfl, fun k hk => by simp [startC, nilRows] at hk⟩, rfl, ⟨rfl, fun k hk => by simp [startC, nilRows] at hk⟩, ⟨rfl, rfl⟩, rfl⟩
          · have hk' : k < p.ts.length := by simpa [startC] using hk
            obtain ⟨e1, e2⟩ := Q1.out.six k (by omega)
            show (getr (List.replicate p.ts.length (zrowD 0 6)) k).n = (getr rs k).n ∧ (getr (List.replicate p.ts.length (zrowD 0 6)) k).zs = (getr rs k).zs
            rw [getr_rep _ _ _ hk', e1, e2]
            exact ⟨rfl, rfl⟩)
        have hlo := hide (show ∀ i, i < 7 → w.heap.size ≤ (d.iv i).1 ∧ (((d.iv i).2 ≤ (d.iv i).1) ∨ (w.heap.size + 1 + 1 ≤ (d.iv i).1 ∧ ((d.iv i).2 ≤ w.heap.size + 1 + 1 + 1 ∨ w.heap.size + 1 + 1 + 1 + 1 ≤ (d.iv i).1))) from by
          subst hd
          intro i hi
          have h7 : i = 0 ∨ i = 1 ∨ i = 2 ∨ i = 3 ∨ i = 4 ∨ i = 5 ∨ i = 6 := by omega
          rcases h7 with rfl | rfl | rfl | rfl | rfl | rfl | rfl <;> simp [StD.iv, nilRow, nilRows, nilHists] <;> omega)
        have hdc := hide (show d.cells = #[.int .i64 0, .slice (some ⟨w.heap.size + 1 + 1, 0, none⟩) p.ts.length p.ts.length, .slice A5 p.ts.length c5, .slice A3 p.init.length c3, .slice none 0 0, .slice none 0 0, .slice none 0 0, .slice none 0 0, .int .i64 0] from by subst hd; rfl)
        have hBw := hide Q1.out.below
        clear hd hlen hrow1 M1 Q1
        go_wp2_with fail
        refine bodyPost_ret (v := .agg #[.int .i64 0, .slice (some ⟨w.heap.size + 1 + 1, 0, none⟩) p.ts.length p.ts.length, .slice A5 p.ts.length c5, .slice A3 p.init.length c3, .slice none 0 0, .slice none 0 0, .slice none 0 0, .slice none 0 0, .int .i64 0]) (by simp [results, Try.results81, go_sem, r0, r1, r2, r3, r4, r5, r6, r7, r8]; done) rfl ⟨d, by rw [hdc.out], hIn.out.keepIv (by simp [World.setCell]) (fun i hi b h1 h2 _ => ?_), fun i hi => (hlo.out i hi).1, hSame.out, ?_⟩
        · have hb := hlo.out i hi
          have h3 : b ≠ w.heap.size + 1 + 1 + 1 := by omega
          have h1 : b ≠ w.heap.size + 1 := by omega
          iterate 9 (refine (Below.heap_setCell _ _ _ _ (by exact h1)).trans ?_)
          exact Below.heap_setCell _ _ _ _ (by exact h3)
        · iterate 10 (refine Below.setCell ?_ (by first | (show w.heap.size ≤ w.heap.size + 1 + 1 + 1; omega) | (show w.heap.size ≤ w.heap.size + 1; omega)) _)
          exact hBw.out
      · have rq := hide rc
        clear rc
        have hlen : ∀ k, k < rs.length → (getr rs k).zs.length = (getr rs k).n ∧ (getr rs k).n ≤ 1048576 := fun k hk => by
          obtain ⟨e1, e2⟩ := Q1.out.six k hk
          rw [e1, e2, zerosS_len]
          exact ⟨rfl, by omega⟩
        have hmb := make_rowsBuf p.ts.length (by omega)
        have gb1 : w1.cell? ⟨w.heap.size, 1, none⟩ = some (.slice A2 p.ts.length c2) := Q1.out.box.cell 1
        have gbl : w.heap.size < w1.heap.size := by omega
        obtain ⟨d, hd⟩ : ∃ d : StD, d = ⟨1, ⟨w.heap.size + 1 + 1, w.heap.size + 1 + 1 + 1, some ⟨w.heap.size + 1 + 1, 0, none⟩, p.ts.length, p.ts.length, zerosS p.ts.length⟩, ⟨w.heap.size + 1 + 1 + 1 + 1, wr.heap.size, A5, p.ts.length, c5, rs⟩, ⟨wr.heap.size, w1.heap.size, A3, p.init.length, c3, p.init⟩, ⟨w1.heap.size, w1.heap.size + 1, some ⟨w1.heap.size, 0, none⟩, p.ts.length, p.ts.length, List.replicate p.ts.length (nilRow w1.heap.size)⟩, nilHists w.heap.size, nilRows w.heap.size, nilRow w.heap.size, 0⟩ := ⟨_, rfl⟩
        have hInS := hide (show ∀ W : World, W.heap.size = w1.heap.size → (∀ b, b ≠ w.heap.size + 1 + 1 + 1 → b ≠ w.heap.size + 1 → W.heap[b]? = w1.heap[b]?) → StIn (W.alloc (Obj.cells (zrow #[.slice none 0 0] p.ts.length) 182)) d from by
          subst hd
          intro W hszS hkW
          have hQ1b := hide (Blk.new W 182 (zrow #[.slice none 0 0] p.ts.length))
          rw [hszS] at hQ1b
          have hkp : ∀ b, b ≠ w.heap.size + 1 + 1 + 1 → b ≠ w.heap.size + 1 → b < w1.heap.size → (W.alloc (Obj.cells (zrow #[.slice none 0 0] p.ts.length) 182)).heap[b]? = w1.heap[b]? := fun b h1 h1' h2 =>
            (Below.heap_alloc _ _ b (by rw [hszS]; exact h2)).trans (hkW b h1 h1')
          refine ⟨⟨RvI.keep (w := w1) ⟨.inr ⟨_, _, rfl, Q1.out.pcs, Nat.le_refl _⟩, fun b hb => ?_⟩ (fun b (h1 : w.heap.size + 1 + 1 ≤ b) (h2 : b < w.heap.size + 1 + 1 + 1) h3 => hkp b (by omega) (by omega) h3), zerosS_len _, by show p.ts.length ≤ 1048576; omega⟩, ⟨hrow1.out.keep (fun b (h1 : w.heap.size + 1 + 1 + 1 + 1 ≤ b) h2 h3 => hkp b (by omega) (by omega) h3), hre, by show p.ts.length ≤ 1048576; omega, hlen⟩, ⟨RvI.keep M1.out (fun b (h1 : wr.heap.size ≤ b) h2 h3 => hkp b (by omega) (by omega) h3), rfl, by show p.init.length ≤ 1048576; omega⟩, ⟨.inr ⟨w1.heap.size, rfl, ⟨⟨_, hQ1b.out, by simp [zrow_size], fun k hk => ?_⟩, fun k hk => ?_, fun i j hij hj => ?_, ⟨⟨Nat.le_refl _, Nat.lt_succ_self _⟩, fun k hk => ?_⟩⟩⟩, by simp, by show p.ts.length ≤ 1048576; omega, fun k hk => ?_⟩, nilHists_ok _ _, nilRows_okF _ _, nilRow_ok _ _, ?_, ?_⟩
          · simp [Value.ownBlock] at hb
            show b < w.heap.size + 1 + 1 + 1
            omega
          · have hk' : k < p.ts.length := by simpa using hk
            rw [getr_rep _ _ _ hk']
            unfold zrow madeCells
            simp [hk', Nat.mod_one, nilRow]
          · have hk' : k < p.ts.length := by simpa using hk
            rw [getr_rep _ _ _ hk']
            exact ⟨.inl ⟨rfl, rfl, rfl⟩, fun b hb => by simp [nilRow, Value.ownBlock] at hb⟩
          · have hj' : j < p.ts.length := by simpa using hj
            rw [getr_rep _ _ _ hj', getr_rep _ _ _ (by omega)]
            exact Nat.le_refl _
          · have hk' : k < p.ts.length := by simpa using hk
            rw [getr_rep _ _ _ hk']
            simp [nilRow]
          · have hk' : k < p.ts.length := by simpa using hk
            rw [getr_rep _ _ _ hk']
            simp [nilRow]
          · refine fun i j hij hj => iv_pair ?_ i j hij (by simpa using hj)
            simp [nilRow, nilRows, nilHists]
            omega
          · intro i hi
            have h7 : i = 0 ∨ i = 1 ∨ i = 2 ∨ i = 3 ∨ i = 4 ∨ i = 5 ∨ i = 6 := by omega
            simp only [World.size_alloc, hszS]
            rcases h7 with rfl | rfl | rfl | rfl | rfl | rfl | rfl <;> simp [StD.iv, nilRow, nilRows, nilHists] <;> omega)
        have hSame := hide (show SameSt (startC p 1) d from by
          subst hd
          refine ⟨rfl, ⟨rfl, rfl⟩, ⟨by simp [startC, hre], fun k hk => ?_⟩, ⟨rfl, rfl⟩, ⟨by simp [startC], fun k hk => ?_⟩, rfl, ⟨rfl, fun k hk => by simp [startC, nilRows] at hk⟩, ⟨rfl, rfl⟩, rfl⟩
          · have hk' : k < p.ts.length := by simpa [startC] using hk
            obtain ⟨e1, e2⟩ := Q1.out.six k (by omega)
            show (getr (List.replicate p.ts.length (zrowD 0 6)) k).n = (getr rs k).n ∧ (getr (List.replicate p.ts.length (zrowD 0 6)) k).zs = (getr rs k).zs
            rw [getr_rep _ _ _ hk', e1, e2]
            exact ⟨rfl, rfl⟩
          · have hk' : k < p.ts.length := by simpa [startC] using hk
            show (getr (List.replicate p.ts.length row0) k).n = (getr (List.replicate p.ts.length (nilRow w1.heap.size)) k).n ∧ (getr (List.replicate p.ts.length row0) k).zs = (getr (List.replicate p.ts.length (nilRow w1.heap.size)) k).zs
            rw [getr_rep _ _ _ hk', getr_rep _ _ _ hk']
            exact ⟨rfl, rfl⟩)
        have hlo := hide (show ∀ i, i < 7 → w.heap.size ≤ (d.iv i).1 ∧ (((d.iv i).2 ≤ (d.iv i).1) ∨ (w.heap.size + 1 + 1 ≤ (d.iv i).1 ∧ ((d.iv i).2 ≤ w.heap.size + 1 + 1 + 1 ∨ w.heap.size + 1 + 1 + 1 + 1 ≤ (d.iv i).1))) from by
          subst hd
          intro i hi
          have h7 : i = 0 ∨ i = 1 ∨ i = 2 ∨ i = 3 ∨ i = 4 ∨ i = 5 ∨ i = 6 := by omega
          rcases h7 with rfl | rfl | rfl | rfl | rfl | rfl | rfl <;> simp [StD.iv, nilRow, nilRows, nilHists] <;> omega)
        have hdc := hide (show d.cells = #[.int .i64 1, .slice (some ⟨w.heap.size + 1 + 1, 0, none⟩) p.ts.length p.ts.length, .slice A5 p.ts.length c5, .slice A3 p.init.length c3, .slice (some ⟨w1.heap.size, 0, none⟩) p.ts.length p.ts.length, .slice none 0 0, .slice none 0 0, .slice none 0 0, .int .i64 0] from by subst hd; rfl)
        have hBw := hide Q1.out.below
        clear hd hlen hrow1 M1 Q1
        go_wp2_with fail
        obtain ⟨wS, hwS⟩ : ∃ q, q = (w1.setCell ⟨w.heap.size + 1 + 1 + 1, 3, none⟩ (.slice A3 p.init.length c3)).setCell ⟨w.heap.size + 1 + 1 + 1, 4, none⟩ (.slice (some ⟨w1.heap.size, 0, none⟩) p.ts.length p.ts.length) := ⟨_, rfl⟩
        have hS1 : wS.heap.size = w1.heap.size := by rw [hwS]; simp
        have hS2 : ∀ b, b ≠ w.heap.size + 1 + 1 + 1 → wS.heap[b]? = w1.heap[b]? := fun b h3 => by
          rw [hwS]
          exact (Below.heap_setCell _ _ _ _ (by exact h3)).trans (Below.heap_setCell _ _ _ _ (by exact h3))
        have hS3 : Below w.heap.size w wS := by
          rw [hwS]
          iterate 2 (refine Below.setCell ?_ (by show w.heap.size ≤ w.heap.size + 1 + 1 + 1; omega) _)
          exact hBw.out
        have hS4 : Blk wS (w.heap.size + 1) 48 #[u0, u1, u2, u3, u4, u5, u6, u7, u8] := (hS2 _ (by omega)).trans rq.out
        rw [← hwS]
        clear hwS
        obtain ⟨wF, hwF⟩ : ∃ q, q = s2Set wS (w.heap.size + 1) (.int .i64 1) (.slice (some ⟨w.heap.size + 1 + 1, 0, none⟩) p.ts.length p.ts.length) (.slice A5 p.ts.length c5) (.slice A3 p.init.length c3) (.slice (some ⟨w1.heap.size, 0, none⟩) p.ts.length p.ts.length) (.slice none 0 0) (.slice none 0 0) (.slice none 0 0) (.int .i64 0) := ⟨_, rfl⟩
        have hF := s2Set_blk hS4 (v0 := .int .i64 1) (v1 := .slice (some ⟨w.heap.size + 1 + 1, 0, none⟩) p.ts.length p.ts.length) (v2 := .slice A5 p.ts.length c5) (v3 := .slice A3 p.init.length c3) (v4 := .slice (some ⟨w1.heap.size, 0, none⟩) p.ts.length p.ts.length) (v5 := .slice none 0 0) (v6 := .slice none 0 0) (v7 := .slice none 0 0) (v8 := .int .i64 0)
        have hF1 := s2Set_size wS (w.heap.size + 1) (.int .i64 1) (.slice (some ⟨w.heap.size + 1 + 1, 0, none⟩) p.ts.length p.ts.length) (.slice A5 p.ts.length c5) (.slice A3 p.init.length c3) (.slice (some ⟨w1.heap.size, 0, none⟩) p.ts.length p.ts.length) (.slice none 0 0) (.slice none 0 0) (.slice none 0 0) (.int .i64 0)
        have hF2 := fun b => s2Set_heap wS (w.heap.size + 1) (.int .i64 1) (.slice (some ⟨w.heap.size + 1 + 1, 0, none⟩) p.ts.length p.ts.length) (.slice A5 p.ts.length c5) (.slice A3 p.init.length c3) (.slice (some ⟨w1.heap.size, 0, none⟩) p.ts.length p.ts.length) (.slice none 0 0) (.slice none 0 0) (.slice none 0 0) (.int .i64 0) b
        have hF3 := s2Set_below (w0 := w) hS3 (show w.heap.size ≤ w.heap.size + 1 by omega) (.int .i64 1) (.slice (some ⟨w.heap.size + 1 + 1, 0, none⟩) p.ts.length p.ts.length) (.slice A5 p.ts.length c5) (.slice A3 p.init.length c3) (.slice (some ⟨w1.heap.size, 0, none⟩) p.ts.length p.ts.length) (.slice none 0 0) (.slice none 0 0) (.slice none 0 0) (.int .i64 0)
        rw [← hwF] at hF hF1 hF2 hF3
        unfold s2Set at hwF
        rw [← hwF]
        clear hwF
        have hG := hF.alloc (Obj.cells (zrow #[.slice none 0 0] p.ts.length) 182)
        have q0 : (wF.alloc (Obj.cells (zrow #[.slice none 0 0] p.ts.length) 182)).cell? ⟨w.heap.size + 1, 0, none⟩ = some (.int .i64 1) := hG.cell 0
        have q1 : (wF.alloc (Obj.cells (zrow #[.slice none 0 0] p.ts.length) 182)).cell? ⟨w.heap.size + 1, 1, none⟩ = some (.slice (some ⟨w.heap.size + 1 + 1, 0, none⟩) p.ts.length p.ts.length) := hG.cell 1
        have q2 : (wF.alloc (Obj.cells (zrow #[.slice none 0 0] p.ts.length) 182)).cell? ⟨w.heap.size + 1, 2, none⟩ = some (.slice A5 p.ts.length c5) := hG.cell 2
        have q3 : (wF.alloc (Obj.cells (zrow #[.slice none 0 0] p.ts.length) 182)).cell? ⟨w.heap.size + 1, 3, none⟩ = some (.slice A3 p.init.length c3) := hG.cell 3
        have q4 : (wF.alloc (Obj.cells (zrow #[.slice none 0 0] p.ts.length) 182)).cell? ⟨w.heap.size + 1, 4, none⟩ = some (.slice (some ⟨w1.heap.size, 0, none⟩) p.ts.length p.ts.length) := hG.cell 4
        have q5 : (wF.alloc (Obj.cells (zrow #[.slice none 0 0] p.ts.length) 182)).cell? ⟨w.heap.size + 1, 5, none⟩ = some (.slice none 0 0) := hG.cell 5
        have q6 : (wF.alloc (Obj.cells (zrow #[.slice none 0 0] p.ts.length) 182)).cell? ⟨w.heap.size + 1, 6, none⟩ = some (.slice none 0 0) := hG.cell 6
        have q7 : (wF.alloc (Obj.cells (zrow #[.slice none 0 0] p.ts.length) 182)).cell? ⟨w.heap.size + 1, 7, none⟩ = some (.slice none 0 0) := hG.cell 7
        have q8 : (wF.alloc (Obj.cells (zrow #[.slice none 0 0] p.ts.length) 182)).cell? ⟨w.heap.size + 1, 8, none⟩ = some (.int .i64 0) := hG.cell 8
        refine bodyPost_ret (v := .agg #[.int .i64 1, .slice (some ⟨w.heap.size + 1 + 1, 0, none⟩) p.ts.length p.ts.length, .slice A5 p.ts.length c5, .slice A3 p.init.length c3, .slice (some ⟨w1.heap.size, 0, none⟩) p.ts.length p.ts.length, .slice none 0 0, .slice none 0 0, .slice none 0 0, .int .i64 0]) (by simp [results, Try.results81, go_sem, q0, q1, q2, q3, q4, q5, q6, q7, q8]; done) rfl ⟨d, by rw [hdc.out], hInS.out wF (hF1.trans hS1) (fun b h3 h1 => (hF2 b h1).trans (hS2 b h3)), fun i hi => (hlo.out i hi).1, hSame.out, hF3.alloc hF3.size _⟩
end Go.Proofs.Ytfkaacfeikmabaa
