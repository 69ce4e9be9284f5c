/- A row of histories in the making: each of one post, going up; one more, appended. -/
import Derived.Test.YtfkaacfeikmabaaMf0
import Derived.Test.YtfkaacfeikmabaaMf8
import Derived.Test.YtfkaacfeikmabaaMf10
import Derived.Test.YtfkaacfeikmabaaMf11
import Derived.Test.YtfkaacfeikmabaaMf12
namespace Go.Proofs.Ytfkaacfeikmabaa
open Go.RowKit

attribute [local go_sem ↓] Go.wp_at_zero Go.wp_at_succ

structure CuAt (w0 : World) (T : Nat) (A1 A2 : Option Addr) (n1 n2 c1 c2 qp : Nat) (fv : Value) (rs : List RowD) (w : World) : Prop where
  below : Below w0.heap.size w0 w
  blk : Blk w T 135 #[.slice A1 n1 c1, .slice A2 n2 c2, .slice (some ⟨qp, 0, none⟩) n2 n2, fv]
  pcs : RowT 3 w qp (zerosS n2)
  up : RowsUp 69 w (w0.heap.size + 1 + 1 + 1 + 1) fv rs
  six : ∀ k, k < rs.length → (getr rs k).n = 6 ∧ (getr rs k).zs = zerosS 6
  pos : (w0.heap.size + 1 + 1 ≤ T ∧ T < w0.heap.size + 1 + 1 + 1 + 1) ∧ (w0.heap.size + 1 + 1 ≤ qp ∧ qp < w0.heap.size + 1 + 1 + 1 + 1) ∧ qp ≠ T
  out : ∃ u1 u2 u3 u4, Blk w (w0.heap.size + 1) 135 #[u1, u2, u3, u4]
  box : Blk w w0.heap.size 31 #[.slice A1 n1 c1, .slice A2 n2 c2]
section
variable {w0 w w' w1 : World} {T n1 n2 c1 c2 qp : Nat} {A1 A2 : Option Addr} {fv fv' : Value} {rs : List RowD}
theorem CoAt.of' (h : CoAt w0 T A1 A2 n1 n2 c1 c2 qp (.slice none 0 0) [] w) (hT : T < w0.heap.size + 1 + 1 + 1 + 1) (hq : qp < w0.heap.size + 1 + 1 + 1 + 1) (hne : qp ≠ T) : CuAt w0 T A1 A2 n1 n2 c1 c2 qp (.slice none 0 0) [] w :=
  ⟨h.below, h.blk, h.pcs.1, RowsUp.nil _ _ _, fun k hk => by simp at hk, ⟨⟨h.lo, hT⟩, ⟨h.pcs.2, hq⟩, hne⟩, h.out, h.box⟩
theorem CuAt.next (h : CuAt w0 T A1 A2 n1 n2 c1 c2 qp fv rs w) (hb : Below w.heap.size w w') : CuAt w0 T A1 A2 n1 n2 c1 c2 qp fv rs w' :=
  ⟨below_then h.below hb, h.blk.below hb h.blk.lt, h.pcs.below hb, h.up.next hb, h.six, h.pos, h.out.imp fun _ => Exists.imp fun _ => Exists.imp fun _ => Exists.imp fun _ k => k.below hb k.lt, h.box.below hb h.box.lt⟩
theorem CuAt.alloc (h : CuAt w0 T A1 A2 n1 n2 c1 c2 qp fv rs w) (o : Obj) : CuAt w0 T A1 A2 n1 n2 c1 c2 qp fv rs (w.alloc o) := h.next (below1 w o)
theorem CuAt.drew (h : CuAt w0 T A1 A2 n1 n2 c1 c2 qp fv rs w) : CuAt w0 T A1 A2 n1 n2 c1 c2 qp fv rs w.drew := h.next (Below.refl _ _).drew
theorem CuAt.cells (h : CuAt w0 T A1 A2 n1 n2 c1 c2 qp fv rs w) : w.cell? ⟨T, 2, none⟩ = some (.slice (some ⟨qp, 0, none⟩) n2 n2) ∧ w.cell? ⟨T, 3, none⟩ = some fv ∧ w.frozen? ⟨T, 3, none⟩ = false := ⟨h.blk.cell 2, h.blk.cell 3, h.blk.frozen 3⟩
theorem CuAt.grow (h : CuAt w0 T A1 A2 n1 n2 c1 c2 qp fv rs w) {q : Nat} (hq : RowT 3 w q (zerosS 6)) (hlo : ∀ k, k < rs.length → (getr rs k).hi ≤ q) (hq2 : w0.heap.size + 1 + 1 + 1 + 1 ≤ q) {xs : List Value} (hxs : xs = rs.map RowD.val ++ [.slice (some ⟨q, 0, none⟩) 6 6]) (ho : w1.ownsRow (w0.heap.size + 1 + 1 + 1 + 1) 69 1 fv' (rs.length + 1) xs) (hg : w.grownBy w1 fv.ownBlock) :
    (w1.cell? ⟨T, 3, none⟩ = some fv ∧ w1.frozen? ⟨T, 3, none⟩ = false) ∧ CuAt w0 T A1 A2 n1 n2 c1 c2 qp fv' (rs ++ [zrowD q 6]) (w1.setCell ⟨T, 3, none⟩ fv') := by
  obtain ⟨⟨p1, p2⟩, ⟨p3, p4⟩, p5⟩ := h.pos
  have hf : ∀ k, k < w0.heap.size + 1 + 1 + 1 + 1 → some k ≠ fv.ownBlock := fun _ hk => own_far h.up.own hk
  have hlt4 : ∀ {k : Nat} {t : TypeId} {cs : Array Value}, k < w0.heap.size + 1 + 1 + 1 + 1 → Blk w k t cs → Blk w1 k t cs := fun hk hb => (hg.block _ hb.lt (hf _ hk)).trans hb
  have hB := hlt4 p2 h.blk
  have hlow : Below w0.heap.size w w1 := ⟨hg.os, hg.tape, hg.output, hg.size, fun k hk => hg.block k (Nat.lt_of_lt_of_le hk h.below.size) (hf k (by omega))⟩
  have hup := h.up.more (by decide) (zrowD_at hq) hq2 hlo (by exact hq.lt) hxs ho hg
  refine ⟨⟨hB.cell 3, hB.frozen 3⟩, ⟨(h.below.trans hlow).setCell (by show w0.heap.size ≤ T; omega) _, by have := hB.set_ 3 fv'; simpa using this, ?_, hup.setCell (by show T < w0.heap.size + 1 + 1 + 1 + 1; omega) _, fun k hk => ?_, h.pos, h.out.imp fun _ => Exists.imp fun _ => Exists.imp fun _ => Exists.imp fun _ k => (hlt4 (by omega) k).far (by show w0.heap.size + 1 ≠ T; omega) _, (hlt4 (by omega) h.box).far (by show w0.heap.size ≠ T; omega) _⟩⟩
  · obtain ⟨cs, h1, h2⟩ := h.pcs
    exact ⟨cs, (hlt4 p4 h1).far (by show qp ≠ T; exact p5) _, h2⟩
  · rcases getr_snoc rs _ k hk with ⟨hk', e⟩ | ⟨-, e⟩
    · rw [e]; exact h.six k hk'
    · rw [e]; exact ⟨rfl, rfl⟩
end

set_option maxRecDepth 100000 in
set_option maxHeartbeats 6400000 in
theorem commonStart_up (A1 A2 : Option Addr) (n1 n2 c1 c2 : Nat) (w : World) (hn : n2 ≤ 3) :
    Calls Try.prog 148 #[.agg #[.slice A1 n1 c1, .slice A2 n2 c2]] w fun e w' => ∃ (qp : Nat) (A5 : Option Addr) (c5 : Nat) (rs : List RowD), e = .returned (.agg #[.slice A1 n1 c1, .slice A2 n2 c2, .slice (some ⟨qp, 0, none⟩) n2 n2, .slice A5 n2 c5]) ∧ rs.length = n2 ∧ (∀ k, k < rs.length → (getr rs k).n = 6 ∧ (getr rs k).zs = zerosS 6) ∧ (RowT 3 w' qp (zerosS n2) ∧ w.heap.size + 1 + 1 ≤ qp ∧ qp < w.heap.size + 1 + 1 + 1 + 1) ∧ RowsI 69 3 w' (w.heap.size + 1 + 1 + 1 + 1) w'.heap.size A5 rs ∧ w.heap.size + 1 + 1 + 1 + 1 ≤ w'.heap.size ∧ Below w.heap.size w w' := by
  have hmk := make_ints n2 (by omega)
  have hm6 : ∀ W : World, (Instr.makeSlice 22 (.int .i64 6) (.int .i64 6)).run Try.prog W = .ok (.slice (some ⟨W.heap.size, 0, none⟩) 6 6) (W.alloc (.cells (zrow #[.int .i64 0] 6) 3)) := fun W => make_ints 6 (by omega) W
  obtain ⟨i2, hi2, hx0, hx1, hx2⟩ := info_parts Try.infoFile
  have hi2 := hide hi2
  have hbx := hide (Blk.new w 31 #[Value.slice A1 n1 c1, Value.slice A2 n2 c2])
  go_enter Try.func148, Try.ntmps148
  go_wp2_with fail
  go_cut [3] (fun s3 wx => ∃ T qp, s3 = .pointer (some ⟨T, 0, none⟩) ∧ CuAt w T A1 A2 n1 n2 c1 c2 qp (.slice none 0 0) [] wx)
  case first =>
    go_region
    all_goals
      go_wp2_with fail
      go_meet
      first
        | exact ⟨w.heap.size + 1 + 1 + 1, w.heap.size + 1 + 1, rfl, (CoAt.startA w A1 A2 n1 n2 c1 c2).of' (by omega) (by omega) (by omega)⟩
        | exact ⟨w.heap.size + 1 + 1, w.heap.size + 1 + 1 + 1, rfl, (CoAt.startB w A1 A2 n1 n2 c1 c2).of' (by omega) (by omega) (by omega)⟩
  case rest =>
    obtain ⟨T, qp, rfl, h0⟩ := hcut
    have b1 : wc.cell? ⟨w.heap.size, 1, none⟩ = some (.slice A2 n2 c2) := h0.box.cell 1
    have hl0 := h0.box.lt
    go_wp2_with fail
    go_loopw [13] (fun k wr => ∃ (rs : List RowD) (fv : Value), k = .int .i64 rs.length ∧ rs.length ≤ n2 ∧ CuAt w T A1 A2 n1 n2 c1 c2 qp fv rs wr) (fun k _ => (n2 - intOf k).toNat)
    case atStart => exact ⟨[], _, rfl, Nat.zero_le _, h0⟩
    case round =>
      obtain ⟨rs, fv, rfl, hfl, h1⟩ := hrel
      have hs1 := h1.blk.lt
      have hbx1 := h1.box.lt
      obtain ⟨d0, d1, d2⟩ := h1.cells
      clear b1 h0
      by_cases hlt : rs.length < n2
      · have hlt' : (rs.length : Int) < (n2 : Int) := by omega
        have h2 := h1.drew
        have hz9 : w.heap.size + 1 + 1 + 1 + 1 ≤ wr.heap.size := by have := h1.blk.lt; have := h1.pcs.lt; have := h1.pos; omega
        have hnew : ((wr.drew.alloc (.cells (zrow #[.int .i64 0] 6) 3)).alloc (.cells #[.slice (some ⟨wr.heap.size, 0, none⟩) 6 6] 69)).heap[wr.heap.size + 1]? = some (.cells #[.slice (some ⟨wr.heap.size, 0, none⟩) 6 6] 69 (0, 0)) := by
          have := heap_alloc_new (wr.drew.alloc (.cells (zrow #[.int .i64 0] 6) 3)) (.cells #[.slice (some ⟨wr.heap.size, 0, none⟩) 6 6] 69)
          rw [World.size_alloc] at this
          exact this
        go_wp2_with fail
        go_region_law (first
          | (refine step_append_lies _ (by rfl) _ _ _ (by rfl) (w.heap.size + 1 + 1 + 1 + 1) 69 i2 _ 1 24 Try.underlying44 hi2.out hx0 hx1 hx2 rfl (by omega) fv rs.length (rs.map RowD.val) (by rfl) ((h2.alloc (.cells (zrow #[.int .i64 0] 6) 3)).alloc _).up.own _ 1 1 [.slice (some ⟨wr.heap.size, 0, none⟩) 6 6] (by rfl) ?hl (World.news_of_block hnew) ?h1 (by omega) ?h63 ?hby ?hb _ (by rfl) ?_
             case hl => rfl
             case h1 => simp [Value.oneCell']
             case h63 => (have : maxLen = 9223372036854775807 := rfl); omega
             case hby => omega
             case hb => simp; omega
             intro gg cap w4 hown hgrow hat hlt4
             obtain ⟨⟨g0, g1⟩, h3⟩ := CuAt.grow ((h2.alloc (.cells (zrow #[.int .i64 0] 6) 3)).alloc _) (rowT_zeros ((Blk.new wr.drew 3 (zrow #[.int .i64 0] 6)).alloc _)) (fun k hk => (h1.up.rng k hk).2) (by exact hz9) rfl hown hgrow))
        all_goals
          go_wp2_with fail
          go_roundw
          case rel => exact ⟨_, _, by simp, by simp; omega, h3⟩
          case measure => simp [intOf]; omega
      · obtain hfe : rs.length = n2 := by omega
        obtain ⟨A5, c5, rfl, hrI⟩ := h1.up.toI (Nat.le_refl _)
        obtain ⟨u1, u2, u3, u4, ho⟩ := h1.out
        have o0 : wr.cell? ⟨w.heap.size + 1, 0, none⟩ = some u1 := ho.cell 0
        have o1 : wr.cell? ⟨w.heap.size + 1, 1, none⟩ = some u2 := ho.cell 1
        have o2 : wr.cell? ⟨w.heap.size + 1, 2, none⟩ = some u3 := ho.cell 2
        have o3 : wr.cell? ⟨w.heap.size + 1, 3, none⟩ = some u4 := ho.cell 3
        have t0 : wr.cell? ⟨T, 0, none⟩ = some (.slice A1 n1 c1) := h1.blk.cell 0
        have t1 : wr.cell? ⟨T, 1, none⟩ = some (.slice A2 n2 c2) := h1.blk.cell 1
        have z0 := ho.frozen 0
        have z1 := ho.frozen 1
        have z2 := ho.frozen 2
        have z3 := ho.frozen 3
        have hp := hide h1.pcs
        have h6 := hide h1.six
        have hpos := hide h1.pos
        have hr := hide hrI
        have hb := hide h1.below
        have hz4 : w.heap.size + 1 + 1 ≤ wr.heap.size := by have := h1.blk.lt; have := h1.pos.1.1; omega
        have hz5 : w.heap.size + 1 + 1 + 1 + 1 ≤ wr.heap.size := by have := h1.blk.lt; have := h1.pcs.lt; have := h1.pos; omega
        clear h1 ho hrI
        go_wp2_with fail
        have hkeep : ∀ (u1 u2 u3 u4 : Value) (k : Nat), k ≠ w.heap.size + 1 → ((((wr.setCell ⟨w.heap.size + 1, 0, none⟩ u1).setCell ⟨w.heap.size + 1, 1, none⟩ u2).setCell ⟨w.heap.size + 1, 2, none⟩ u3).setCell ⟨w.heap.size + 1, 3, none⟩ u4).heap[k]? = wr.heap[k]? := fun u1 u2 u3 u4 k hk =>
          (Below.heap_setCell _ _ _ k hk).trans ((Below.heap_setCell _ _ _ k hk).trans ((Below.heap_setCell _ _ _ k hk).trans (Below.heap_setCell _ _ _ k hk)))
        refine bodyPost_ret (v := .agg #[.slice A1 n1 c1, .slice A2 n2 c2, .slice (some ⟨qp, 0, none⟩) n2 n2, .slice A5 n2 c5]) (by simp [results, Try.results148, go_sem, o0, o1, o2, o3, hfe]; done) rfl ⟨qp, A5, c5, rs, rfl, hfe, h6.out, ⟨hp.out.heap (hkeep _ _ _ _ _ (by have := hpos.out; omega)), hpos.out.2.1.1, hpos.out.2.1.2⟩, ?_, ?_, ?_⟩
        · have hsz : ∀ (u1 u2 u3 u4 : Value), ((((wr.setCell ⟨w.heap.size + 1, 0, none⟩ u1).setCell ⟨w.heap.size + 1, 1, none⟩ u2).setCell ⟨w.heap.size + 1, 2, none⟩ u3).setCell ⟨w.heap.size + 1, 3, none⟩ u4).heap.size = wr.heap.size := fun _ _ _ _ => by simp
          rw [hsz]
          exact hr.out.keep (fun b hb1 _ _ => hkeep _ _ _ _ b (by omega))
        · simp only [World.size_setCell]
          exact hz5
        · iterate 4 (refine Below.setCell ?_ (by show w.heap.size ≤ w.heap.size + 1; omega) _)
          exact hb.out
end Go.Proofs.Ytfkaacfeikmabaa

namespace Go.Proofs.Ytfkaacfeikmabaa
open Go.RowKit

def hval (hs : List (List PostD)) (pq : Nat → Nat) (k : Nat) : Value := .slice (some ⟨pq k, 0, none⟩) (geth hs k).length (geth hs k).length
structure HUp (w : World) (B : Nat) (v : Value) (hs : List (List PostD)) (los his pq : Nat → Nat) (qs : Nat → Nat → Nat) : Prop where
  own : w.ownsRow B 84 1 v hs.length ((List.range hs.length).map (hval hs pq))
  posts : ∀ k, k < hs.length → PostsOwn w (los k) (his k) (pq k) (qs k) (geth hs k)
  up : ∀ i j, i < j → j < hs.length → his i ≤ los j
  rng : ∀ k, k < hs.length → B ≤ los k ∧ his k ≤ w.heap.size
  sep : ∀ q, v.ownBlock = some q → ∀ k, k < hs.length → q < los k ∨ his k ≤ q
section
variable {w w' w1 : World} {B lo hi p : Nat} {v v' : Value} {hs : List (List PostD)} {los his pq : Nat → Nat} {qs : Nat → Nat → Nat} {xs : List Value} {d : PostD} {qf : Nat → Nat}
theorem HUp.nil (w : World) (B : Nat) : HUp w B (.slice none 0 0) [] (fun _ => 0) (fun _ => 0) (fun _ => 0) (fun _ _ => 0) :=
  ⟨⟨rfl, .inl ⟨rfl, rfl⟩⟩, fun k hk => by simp at hk, fun i j _ hj => by simp at hj, fun k hk => by simp at hk, fun q _ k hk => by simp at hk⟩
theorem HUp.keep (h : HUp w B v hs los his pq qs) (hz : w.heap.size ≤ w'.heap.size) (hk : ∀ k, B ≤ k → k < w.heap.size → w'.heap[k]? = w.heap[k]?) : HUp w' B v hs los his pq qs :=
  ⟨kept h.own (fun k h1 e => hk k (own_lt h.own e).1 h1), fun k hk' => (h.posts k hk').keep (fun b h1 _ h3 => hk b (Nat.le_trans (h.rng k hk').1 h1) h3), h.up, fun k hk' => ⟨(h.rng k hk').1, Nat.le_trans (h.rng k hk').2 hz⟩, h.sep⟩
theorem HUp.next (h : HUp w B v hs los his pq qs) (hb : Below w.heap.size w w') : HUp w' B v hs los his pq qs := h.keep hb.size (fun k _ hk => hb.block k hk)
theorem HUp.alloc (h : HUp w B v hs los his pq qs) (o : Obj) : HUp (w.alloc o) B v hs los his pq qs := h.next (below1 w o)
theorem HUp.drew (h : HUp w B v hs los his pq qs) : HUp w.drew B v hs los his pq qs := h.next (Below.refl _ _).drew
theorem HUp.setCell (h : HUp w B v hs los his pq qs) {a : Addr} (ha : a.block < B) (x : Value) : HUp (w.setCell a x) B v hs los his pq qs :=
  h.keep (by simp [World.setCell]) (fun k hk _ => Below.heap_setCell w a x k (by omega))
theorem geth_snoc (hs : List (List PostD)) (l : List PostD) (k : Nat) (hk : k < (hs ++ [l]).length) : (k < hs.length ∧ geth (hs ++ [l]) k = geth hs k) ∨ (k = hs.length ∧ geth (hs ++ [l]) k = l) := by
  unfold geth
  rw [List.getD_eq_getElem?_getD, List.getD_eq_getElem?_getD]
  by_cases e : k < hs.length
  · rw [List.getElem?_append_left e]; exact .inl ⟨e, rfl⟩
  · have hk' : k = hs.length := by simp at hk; omega
    subst hk'
    rw [List.getElem?_append_right (Nat.le_refl _)]
    exact .inr ⟨rfl, by simp⟩
def upF (f : Nat → Nat) (n x : Nat) (k : Nat) : Nat := if k = n then x else f k
def upQ (f : Nat → Nat → Nat) (n : Nat) (g : Nat → Nat) (k : Nat) : Nat → Nat := if k = n then g else f k
theorem PostsOwn.grownO {l : List PostD} {n m : Nat} (h : PostsOwn w lo hi p qf l) (hg : w.grownBy w1 v.ownBlock) (hv : w.ownsRow B 84 n v m xs) : PostsOwn w1 lo hi p qf l := by
  have hq : ∀ b, v.ownBlock = some b → ∃ cs, w.heap[b]? = some (.cells cs 84 (0, 0)) := fun b hb => by
    obtain ⟨_, _, cur, h2⟩ := own_lt hv hb
    exact ⟨_, h2⟩
  obtain ⟨cs, hb, h2, h3⟩ := h.row
  refine ⟨h.len, ⟨cs, (hg.block p hb.lt (fun e => ?_)).trans hb, h2, h3⟩, fun k hk => ⟨?_, (h.views k hk).2⟩, h.up, h.rng⟩
  · obtain ⟨ds, hd⟩ := hq p e.symm
    have : w.heap[p]? = some (.cells cs 86 (0, 0)) := hb
    rw [hd] at this
    cases this
  · obtain ⟨ds, d1, d2⟩ := (h.views k hk).1
    refine ⟨ds, (hg.block _ d1.lt (fun e => ?_)).trans d1, d2⟩
    obtain ⟨es, he⟩ := hq _ e.symm
    have : w.heap[qf k]? = some (.cells ds 3 (0, 0)) := d1
    rw [he] at this
    cases this
theorem HUp.more (h : HUp w B v hs los his pq qs) {l : List PostD} (hp : PostsOwn w lo hi p qf l) (h1 : B ≤ lo) (h2 : ∀ k, k < hs.length → his k ≤ lo) (h3 : hi ≤ w.heap.size) (hq : ∀ q, v.ownBlock = some q → q < lo)
    (hxs : xs = (List.range hs.length).map (hval hs pq) ++ [.slice (some ⟨p, 0, none⟩) l.length l.length]) (ho : w1.ownsRow B 84 1 v' (hs.length + 1) xs) (hg : w.grownBy w1 v.ownBlock) (hw : v'.ownBlock = v.ownBlock ∨ v'.ownBlock = some w.heap.size) :
    HUp w1 B v' (hs ++ [l]) (upF los hs.length lo) (upF his hs.length hi) (upF pq hs.length p) (upQ qs hs.length qf) := by
  subst hxs
  have hl : (hs ++ [l]).length = hs.length + 1 := by simp
  have hne : ∀ k, k < hs.length → k ≠ hs.length := fun k hk => by omega
  refine ⟨?_, fun k hk => ?_, fun i j hij hj => ?_, fun k hk => ?_, fun q hq' k hk => ?_⟩
  · have e : (List.range (hs ++ [l]).length).map (hval (hs ++ [l]) (upF pq hs.length p)) = (List.range hs.length).map (hval hs pq) ++ [.slice (some ⟨p, 0, none⟩) l.length l.length] := by
      rw [hl, List.range_succ, List.map_append]
      congr 1
      · refine List.map_congr_left fun k hk => ?_
        have hk' : k < hs.length := by simpa using hk
        rcases geth_snoc hs l k (by omega) with ⟨-, e⟩ | ⟨e0, -⟩
        · unfold hval; rw [e]; unfold upF; rw [if_neg (hne k hk')]
        · omega
      · rcases geth_snoc hs l hs.length (by omega) with ⟨e0, -⟩ | ⟨-, e⟩
        · omega
        · simp only [List.map_cons, List.map_nil]
          unfold hval
          rw [e]
          simp [upF]
    rw [e, hl]
    exact ho
  · rcases geth_snoc hs l k hk with ⟨hk', e⟩ | ⟨e0, e⟩
    · rw [e]; unfold upF upQ; rw [if_neg (hne k hk'), if_neg (hne k hk'), if_neg (hne k hk'), if_neg (hne k hk')]
      exact (h.posts k hk').grownO hg h.own
    · rw [e]; subst e0; unfold upF upQ; rw [if_pos rfl, if_pos rfl, if_pos rfl, if_pos rfl]
      exact hp.grownO hg h.own
  · unfold upF
    by_cases e : j = hs.length
    · rw [if_neg (by omega), if_pos e]; exact h2 i (by omega)
    · rw [if_neg (by omega), if_neg e]; exact h.up i j hij (by omega)
  · unfold upF
    by_cases e : k = hs.length
    · rw [if_pos e, if_pos e]; exact ⟨h1, Nat.le_trans h3 hg.size⟩
    · rw [if_neg e, if_neg e]
      have := h.rng k (by omega)
      exact ⟨this.1, Nat.le_trans this.2 hg.size⟩
  · have hlo : lo ≤ hi := by have := hp.rng.1; omega
    unfold upF
    by_cases e : k = hs.length
    · rw [if_pos e, if_pos e]
      rcases hw with hw | hw
      · exact .inl (hq q (hw ▸ hq'))
      · rw [hw] at hq'; cases hq'; exact .inr h3
    · rw [if_neg e, if_neg e]
      rcases hw with hw | hw
      · exact h.sep q (hw ▸ hq') k (by omega)
      · rw [hw] at hq'; cases hq'
        exact .inr (h.rng k (by omega)).2
theorem HUp.toI (h : HUp w B v hs los his pq qs) (hh : hs.length ≤ 9223372036854775807) : ∃ A c, v = .slice A hs.length c ∧ HistsI w ⟨B, w.heap.size, A, hs.length, c, hs, los, his, pq, qs⟩ := by
  rcases h.own.2 with ⟨rfl, h0⟩ | ⟨q, cap, cur, rfl, hb, hq, hcap, -, hsz, htk⟩
  · have e : hs = [] := List.length_eq_zero_iff.1 h0
    subst e
    exact ⟨none, 0, rfl, .inl rfl⟩
  · refine ⟨_, cap, rfl, .inr ⟨q, rfl, ⟨hh, ⟨cur, hq, (by show hs.length ≤ cur.size; omega), fun k (hk : k < hs.length) => ?_⟩, h.posts, h.up, ⟨⟨hb, Blk.lt hq⟩, fun k hk => ⟨h.sep q rfl k hk, h.rng k hk⟩⟩⟩⟩⟩
    have h2 : cur.toList[k]? = ((List.range hs.length).map (hval hs pq))[k]? := by rw [← htk, List.getElem?_take, if_pos (by omega)]
    rw [← Array.getElem?_toList, h2, List.getElem?_map, List.getElem?_range hk]
    rfl
end
end Go.Proofs.Ytfkaacfeikmabaa
