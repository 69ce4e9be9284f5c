/- slices.Clone of flags, numbers, jobs, rows: the copy is labelled. -/
import Derived.Test.YtmhldlpjiepmpaaSlV
import Derived.Test.YtmhldlpjiepmpaaJbO
import Derived.Test.YtmhldlpjiepmpaaJbB
namespace Go.Proofs.Ytmhldlpjiepmpaa
open Go.RowKit

set_option maxRecDepth 100000 in
set_option maxHeartbeats 1600000 in
theorem cloneBool_sl (l B : Nat) (f0 : Nat → Nat) (A : Option Addr) (n c : Nat) (g : Nat → Value) (w : World) (hn : n ≤ 1048576) (hB : B ≤ w.heap.size) (ha : CellsAt w A (n * 1) g) :
    Calls Try.prog 107 #[.slice A n c] w fun e w' => ∃ v f, e = .returned v ∧ Sl 4 1 w' f l B v n g ∧ Below w.heap.size w w' ∧ ∀ b, b < w.heap.size → f b = f0 b := by
  rcases A with _ | ad
  · obtain rfl : n = 0 := by
      rcases Nat.eq_zero_or_pos n with h | h
      · exact h
      · obtain ⟨b, off, e, _⟩ := ha.2 (by omega)
        cases e
    clear hn ha
    have he : ∀ w : World, (binOp .eql 25 (.slice none 0 c) (.slice none 0 0)).run Try.prog w = .ok (.bool true) w := fun _ => by kernel_rfl
    go_enter Try.func107, Try.ntmps107
    go_wp2
    go_ret
    exact ⟨_, f0, rfl, Sl.nil _ _ _ _ _ _ _, Below.refl _ _, fun _ _ => rfl⟩
  · obtain ⟨i1, hi1, hy0, hy1, hy2⟩ := info_parts Try.infoBoolB
    have hb0 := below1 w (Obj.cells #[] 4)
    have hsrc := hide (ha.next hb0)
    have hS0 := hide (Sl.fresh 4 1 w f0 (l := l) (Nat.le_refl w.heap.size) g)
    clear ha
    have he : ∀ w : World, (binOp .eql 25 (.slice (some ad) n c) (.slice none 0 0)).run Try.prog w = .ok (.bool false) w := fun _ => by kernel_rfl
    go_enter Try.func107, Try.ntmps107
    go_wp2_with (at_builtin; refine wpList_append_slv _ rfl _ _ _ rfl 4 i1 _ 1 1 Try.underlying25 hi1 hy0 hy1 hy2 rfl (by omega) (.slice (some ⟨w.heap.size, 0, none⟩) 0 0) 0 g rfl hS0.out (some ad) n c g rfl hsrc.out (by have : maxLen = 9223372036854775807 := rfl; omega) (by omega) (by simp) ?_)
    intro v2 w2 f2 hv2 hL2 hf2
    have hv4 : Sl 4 1 w2 f2 l w.heap.size v2 n (gThen g 0 g) := by simpa using hv2
    have hv3 := hide ((hv4.base hB).congr (g' := g) (fun k _ => (gThen_hi (Nat.zero_le _)).symm))
    have hb3 := hide (hb0.trans (hL2.below (Nat.le_of_lt (by simp))))
    have hf3 := hide (show ∀ b, b < w.heap.size → f2 b = f0 b from fun b hb => (hf2 b (by omega)).trans (lab_old hb))
    clear hv2 hv4 hL2 hf2
    go_wp2_with fail
    go_ret
    exact ⟨v2, f2, rfl, hv3.out, hb3.out, hf3.out⟩

set_option maxRecDepth 100000 in
set_option maxHeartbeats 1600000 in
theorem cloneInt_sl (l B : Nat) (f0 : Nat → Nat) (A : Option Addr) (n c : Nat) (g : Nat → Value) (w : World) (hn : n ≤ 1048576) (hB : B ≤ w.heap.size) (ha : CellsAt w A (n * 1) g) :
    Calls Try.prog 108 #[.slice A n c] w fun e w' => ∃ v f, e = .returned v ∧ Sl 3 1 w' f l B v n g ∧ Below w.heap.size w w' ∧ ∀ b, b < w.heap.size → f b = f0 b := by
  rcases A with _ | ad
  · obtain rfl : n = 0 := by
      rcases Nat.eq_zero_or_pos n with h | h
      · exact h
      · obtain ⟨b, off, e, _⟩ := ha.2 (by omega)
        cases e
    clear hn ha
    have he : ∀ w : World, (binOp .eql 26 (.slice none 0 c) (.slice none 0 0)).run Try.prog w = .ok (.bool true) w := fun _ => by kernel_rfl
    go_enter Try.func108, Try.ntmps108
    go_wp2
    go_ret
    exact ⟨_, f0, rfl, Sl.nil _ _ _ _ _ _ _, Below.refl _ _, fun _ _ => rfl⟩
  · obtain ⟨i1, hi1, hy0, hy1, hy2⟩ := info_parts Try.infoInt
    have hb0 := below1 w (Obj.cells #[] 3)
    have hsrc := hide (ha.next hb0)
    have hS0 := hide (Sl.fresh 3 1 w f0 (l := l) (Nat.le_refl w.heap.size) g)
    clear ha
    have he : ∀ w : World, (binOp .eql 26 (.slice (some ad) n c) (.slice none 0 0)).run Try.prog w = .ok (.bool false) w := fun _ => by kernel_rfl
    go_enter Try.func108, Try.ntmps108
    go_wp2_with (at_builtin; refine wpList_append_slv _ rfl _ _ _ rfl 3 i1 _ 1 8 Try.underlying26 hi1 hy0 hy1 hy2 rfl (by omega) (.slice (some ⟨w.heap.size, 0, none⟩) 0 0) 0 g rfl hS0.out (some ad) n c g rfl hsrc.out (by have : maxLen = 9223372036854775807 := rfl; omega) (by omega) (by simp) ?_)
    intro v2 w2 f2 hv2 hL2 hf2
    have hv4 : Sl 3 1 w2 f2 l w.heap.size v2 n (gThen g 0 g) := by simpa using hv2
    have hv3 := hide ((hv4.base hB).congr (g' := g) (fun k _ => (gThen_hi (Nat.zero_le _)).symm))
    have hb3 := hide (hb0.trans (hL2.below (Nat.le_of_lt (by simp))))
    have hf3 := hide (show ∀ b, b < w.heap.size → f2 b = f0 b from fun b hb => (hf2 b (by omega)).trans (lab_old hb))
    clear hv2 hv4 hL2 hf2
    go_wp2_with fail
    go_ret
    exact ⟨v2, f2, rfl, hv3.out, hb3.out, hf3.out⟩

set_option maxRecDepth 100000 in
set_option maxHeartbeats 1600000 in
theorem cloneJob_sl (l B : Nat) (f0 : Nat → Nat) (A : Option Addr) (n c : Nat) (g : Nat → Value) (w : World) (hn : n ≤ 1048576) (hB : B ≤ w.heap.size) (ha : CellsAt w A (n * 2) g) :
    Calls Try.prog 116 #[.slice A n c] w fun e w' => ∃ v f, e = .returned v ∧ Sl 42 2 w' f l B v n g ∧ Below w.heap.size w w' ∧ ∀ b, b < w.heap.size → f b = f0 b := by
  rcases A with _ | ad
  · obtain rfl : n = 0 := by
      rcases Nat.eq_zero_or_pos n with h | h
      · exact h
      · obtain ⟨b, off, e, _⟩ := ha.2 (by omega)
        cases e
    clear hn ha
    have he : ∀ w : World, (binOp .eql 23 (.slice none 0 c) (.slice none 0 0)).run Try.prog w = .ok (.bool true) w := fun _ => by kernel_rfl
    go_enter Try.func116, Try.ntmps116
    go_wp2
    go_ret
    exact ⟨_, f0, rfl, Sl.nil _ _ _ _ _ _ _, Below.refl _ _, fun _ _ => rfl⟩
  · obtain ⟨i1, hi1, hy0, hy1, hy2⟩ := info_parts Try.infoJobT
    have hb0 := below1 w (Obj.cells #[] 42)
    have hsrc := hide (ha.next hb0)
    have hS0 := hide (Sl.fresh 42 2 w f0 (l := l) (Nat.le_refl w.heap.size) g)
    clear ha
    have he : ∀ w : World, (binOp .eql 23 (.slice (some ad) n c) (.slice none 0 0)).run Try.prog w = .ok (.bool false) w := fun _ => by kernel_rfl
    go_enter Try.func116, Try.ntmps116
    go_wp2_with (at_builtin; refine wpList_append_slv _ rfl _ _ _ rfl 42 i1 _ 2 32 Try.underlying23 hi1 hy0 hy1 hy2 rfl (by omega) (.slice (some ⟨w.heap.size, 0, none⟩) 0 0) 0 g rfl hS0.out (some ad) n c g rfl hsrc.out (by have : maxLen = 9223372036854775807 := rfl; omega) (by omega) (by simp) ?_)
    intro v2 w2 f2 hv2 hL2 hf2
    have hv4 : Sl 42 2 w2 f2 l w.heap.size v2 n (gThen g 0 g) := by simpa using hv2
    have hv3 := hide ((hv4.base hB).congr (g' := g) (fun k _ => (gThen_hi (Nat.zero_le _)).symm))
    have hb3 := hide (hb0.trans (hL2.below (Nat.le_of_lt (by simp))))
    have hf3 := hide (show ∀ b, b < w.heap.size → f2 b = f0 b from fun b hb => (hf2 b (by omega)).trans (lab_old hb))
    clear hv2 hv4 hL2 hf2
    go_wp2_with fail
    go_ret
    exact ⟨v2, f2, rfl, hv3.out, hb3.out, hf3.out⟩

set_option maxRecDepth 100000 in
set_option maxHeartbeats 1600000 in
theorem cloneRow_sl (l B : Nat) (f0 : Nat → Nat) (A : Option Addr) (n c : Nat) (g : Nat → Value) (w : World) (hn : n ≤ 1048576) (hB : B ≤ w.heap.size) (ha : CellsAt w A (n * 1) g) :
    Calls Try.prog 122 #[.slice A n c] w fun e w' => ∃ v f, e = .returned v ∧ Sl 35 1 w' f l B v n g ∧ Below w.heap.size w w' ∧ ∀ b, b < w.heap.size → f b = f0 b := by
  rcases A with _ | ad
  · obtain rfl : n = 0 := by
      rcases Nat.eq_zero_or_pos n with h | h
      · exact h
      · obtain ⟨b, off, e, _⟩ := ha.2 (by omega)
        cases e
    clear hn ha
    have he : ∀ w : World, (binOp .eql 24 (.slice none 0 c) (.slice none 0 0)).run Try.prog w = .ok (.bool true) w := fun _ => by kernel_rfl
    go_enter Try.func122, Try.ntmps122
    go_wp2
    go_ret
    exact ⟨_, f0, rfl, Sl.nil _ _ _ _ _ _ _, Below.refl _ _, fun _ _ => rfl⟩
  · obtain ⟨i1, hi1, hy0, hy1, hy2⟩ := info_parts Try.infoRowT
    have hb0 := below1 w (Obj.cells #[] 35)
    have hsrc := hide (ha.next hb0)
    have hS0 := hide (Sl.fresh 35 1 w f0 (l := l) (Nat.le_refl w.heap.size) g)
    clear ha
    have he : ∀ w : World, (binOp .eql 24 (.slice (some ad) n c) (.slice none 0 0)).run Try.prog w = .ok (.bool false) w := fun _ => by kernel_rfl
    go_enter Try.func122, Try.ntmps122
    go_wp2_with (at_builtin; refine wpList_append_slv _ rfl _ _ _ rfl 35 i1 _ 1 24 Try.underlying24 hi1 hy0 hy1 hy2 rfl (by omega) (.slice (some ⟨w.heap.size, 0, none⟩) 0 0) 0 g rfl hS0.out (some ad) n c g rfl hsrc.out (by have : maxLen = 9223372036854775807 := rfl; omega) (by omega) (by simp) ?_)
    intro v2 w2 f2 hv2 hL2 hf2
    have hv4 : Sl 35 1 w2 f2 l w.heap.size v2 n (gThen g 0 g) := by simpa using hv2
    have hv3 := hide ((hv4.base hB).congr (g' := g) (fun k _ => (gThen_hi (Nat.zero_le _)).symm))
    have hb3 := hide (hb0.trans (hL2.below (Nat.le_of_lt (by simp))))
    have hf3 := hide (show ∀ b, b < w.heap.size → f2 b = f0 b from fun b hb => (hf2 b (by omega)).trans (lab_old hb))
    clear hv2 hv4 hL2 hf2
    go_wp2_with fail
    go_ret
    exact ⟨v2, f2, rfl, hv3.out, hb3.out, hf3.out⟩

/-- What is read, as cells. -/
theorem IntsAt.cells {w : World} {S : Nat → Prop} {A : Option Addr} {zs : List Int} (h : IntsAt w S A zs) : CellsAt w A (zs.length * 1) (gI zs) :=
  ⟨fun _ _ => rfl, fun hp => by
    obtain ⟨b, off, e, _, hc⟩ := h.2 (by omega)
    exact ⟨b, off, e, fun k hk => hc k (by omega)⟩⟩
theorem BlsAt.cells {w : World} {S : Nat → Prop} {A : Option Addr} {bs : List Bool} (h : BlsAt w S A bs) : CellsAt w A (bs.length * 1) (gB bs) :=
  ⟨fun _ _ => rfl, fun hp => by
    obtain ⟨b, off, e, _, hc⟩ := h.2 (by omega)
    exact ⟨b, off, e, fun k hk => hc k (by omega)⟩⟩
theorem DqAt.cells {w : World} {S : Nat → Prop} {A : Option Addr} {rs : List (List Int)} (h : DqAt w S A rs) : ∃ (A' : Nat → Option Addr) (c' : Nat → Nat), CellsAt w A (rs.length * 1) (fun k => .slice (A' k) (getq rs k).length (c' k)) ∧ ∀ k, k < rs.length → IntsAt w S (A' k) (getq rs k) := by
  have hp : ∀ k, ∃ q : Option Addr × Nat, k < rs.length → (∀ b off, A = some ⟨b, off, none⟩ → w.cell? ⟨b, off + k, none⟩ = some (.slice q.1 (getq rs k).length q.2)) ∧ IntsAt w S q.1 (getq rs k) := fun k => by
    by_cases hk : k < rs.length
    · obtain ⟨b, off, e, -, A', c', hc, -, hi⟩ := h.at_ hk
      refine ⟨(A', c'), fun _ => ⟨fun b' off' e' => ?_, hi⟩⟩
      rw [e] at e'
      cases e'
      exact hc
    · exact ⟨(none, 0), fun h => absurd h hk⟩
  obtain ⟨q, hq⟩ := Classical.axiomOfChoice hp
  refine ⟨fun k => (q k).1, fun k => (q k).2, ⟨fun _ _ => rfl, fun h0 => ?_⟩, fun k hk => (hq k hk).2⟩
  obtain ⟨b, off, e, -⟩ := h.at_ (k := 0) (by omega)
  exact ⟨b, off, e, fun k hk => (hq k (by omega)).1 b off e⟩
theorem JobsAt.cells {w : World} {S : Nat → Prop} {A : Option Addr} {l : List JobD} (h : JobsAt w S A l) : ∃ (A' : Nat → Option Addr) (c' : Nat → Nat), CellsAt w A (l.length * 2) (gJob l (fun k => .slice (A' k) (getj l k).ks.length (c' k))) ∧ ∀ k, k < l.length → IntsAt w S (A' k) (getj l k).ks := by
  have hp : ∀ k, ∃ q : Option Addr × Nat, k < l.length → (∀ b off, A = some ⟨b, off, none⟩ → w.cell? ⟨b, off + k * 2, none⟩ = some (.int .i64 (getj l k).v) ∧ w.cell? ⟨b, off + (k * 2 + 1), none⟩ = some (.slice q.1 (getj l k).ks.length q.2)) ∧ IntsAt w S q.1 (getj l k).ks := fun k => by
    by_cases hk : k < l.length
    · obtain ⟨b, off, e, -, hv, A', c', hc, -, hi⟩ := h.at_ hk
      refine ⟨(A', c'), fun _ => ⟨fun b' off' e' => ?_, hi⟩⟩
      rw [e] at e'
      cases e'
      exact ⟨hv, by rw [← Nat.add_assoc]; exact hc⟩
    · exact ⟨(none, 0), fun h => absurd h hk⟩
  obtain ⟨q, hq⟩ := Classical.axiomOfChoice hp
  refine ⟨fun k => (q k).1, fun k => (q k).2, ⟨fun k _ => ?_, fun h0 => ?_⟩, fun k hk => (hq k hk).2⟩
  · unfold gJob
    by_cases e : k % 2 = 0
    · rw [if_pos e]; rfl
    · rw [if_neg e]; rfl
  obtain ⟨b, off, e, -⟩ := h.at_ (k := 0) (by omega)
  refine ⟨b, off, e, fun k hk => ?_⟩
  obtain ⟨h1, h2⟩ := (hq (k / 2) (by omega)).1 b off e
  rcases Nat.mod_two_eq_zero_or_one k with h3 | h3
  · obtain ⟨m, rfl⟩ : ∃ m, k = m * 2 := ⟨k / 2, by omega⟩
    rw [gJob_v]
    rw [show m * 2 / 2 = m by omega] at h1
    exact h1
  · obtain ⟨m, rfl⟩ : ∃ m, k = m * 2 + 1 := ⟨k / 2, by omega⟩
    rw [gJob_k]
    rw [show (m * 2 + 1) / 2 = m by omega] at h2
    exact h2
end Go.Proofs.Ytmhldlpjiepmpaa
