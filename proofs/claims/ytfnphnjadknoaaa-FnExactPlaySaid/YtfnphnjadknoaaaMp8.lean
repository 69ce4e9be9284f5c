/- Pools in memory: as they are read, and of one's own. -/
import Derived.Test.YtfnphnjadknoaaaMp0
import Derived.Test.YtfnphnjadknoaaaMp6
import Derived.Test.YtfnphnjadknoaaaMp7
namespace Go.Proofs.Ytfnphnjadknoaaa
open Go.RowKit

theorem getj_map (F : Nat → JobD) (n k : Nat) (hk : k < n) : getj ((List.range n).map F) k = F k := by
  unfold getj
  rw [List.getD_eq_getElem?_getD, List.getElem?_map, List.getElem?_range hk]
  rfl
theorem getq_map (F : Nat → List Int) (n k : Nat) (hk : k < n) : getq ((List.range n).map F) k = F k := by
  unfold getq
  rw [List.getD_eq_getElem?_getD, List.getElem?_map, List.getElem?_range hk]
  rfl
def mkJob (k : Nat) (l : List JobD) (j : Nat) : JobD := ⟨((k + j + sumTo (lensJ l) j : Nat) : Int), marks (k + j + sumTo (lensJ l) j + 1) (getj l j).ks.length⟩
def midJobs (k : Nat) (l : List JobD) (J : Nat) : List JobD := (List.range l.length).map (fun j => if j < J then mkJob k l j else getj l j)
def mkQ (k : Nat) (rs : List (List Int)) (j : Nat) : List Int := marks (k + sumTo (lensQ rs) j) (getq rs j).length
def midQ (k : Nat) (rs : List (List Int)) (J : Nat) : List (List Int) := (List.range rs.length).map (fun j => if j < J then mkQ k rs j else getq rs j)
theorem midJobs_len (k : Nat) (l : List JobD) (J : Nat) : (midJobs k l J).length = l.length := by simp [midJobs]
theorem midQ_len (k : Nat) (rs : List (List Int)) (J : Nat) : (midQ k rs J).length = rs.length := by simp [midQ]
theorem midJobs_get {k : Nat} {l : List JobD} {J j : Nat} (hj : j < l.length) : getj (midJobs k l J) j = if j < J then mkJob k l j else getj l j := getj_map _ _ _ hj
theorem midQ_get {k : Nat} {rs : List (List Int)} {J j : Nat} (hj : j < rs.length) : getq (midQ k rs J) j = if j < J then mkQ k rs j else getq rs j := getq_map _ _ _ hj
theorem midJobs_zero (k : Nat) (l : List JobD) : midJobs k l 0 = l := by
  apply List.ext_getElem
  · exact midJobs_len k l 0
  · intro j h1 h2
    rw [← getj_eq h1, midJobs_get h2, if_neg (by omega), getj_eq h2]
theorem midQ_zero (k : Nat) (rs : List (List Int)) : midQ k rs 0 = rs := by
  apply List.ext_getElem
  · exact midQ_len k rs 0
  · intro j h1 h2
    rw [← getq_eq h1, midQ_get h2, if_neg (by omega), getq_eq h2]
theorem midJobs_ks {k : Nat} {l : List JobD} {J j : Nat} (hj : j < l.length) : (getj (midJobs k l J) j).ks.length = (getj l j).ks.length := by
  rw [midJobs_get hj]
  split
  · exact marks_len _ _
  · rfl
theorem midQ_row {k : Nat} {rs : List (List Int)} {J j : Nat} (hj : j < rs.length) : (getq (midQ k rs J) j).length = (getq rs j).length := by
  rw [midQ_get hj]
  split
  · exact marks_len _ _
  · rfl

set_option maxRecDepth 100000 in
set_option maxHeartbeats 3200000 in
theorem markJobS_o {f : Nat → Nat} {B : Nat} {v : Value} {l : List JobD} {kv : Nat → Value} (k : Nat) (w : World) (hz : sizeJ l ≤ 1048576) (hk : k ≤ 2097152) (h : JobsO w f B v l kv) :
    Calls Try.prog 41 #[v, .int .i64 k] w fun e w' => e = .returned (.int .i64 ((k + sizeJ l : Nat) : Int)) ∧ JobsO w' f B v (midJobs k l l.length) kv ∧ w.heap.size ≤ w'.heap.size ∧ (w'.os = w.os ∧ w'.tape = w.tape ∧ w'.output = w.output) ∧ ∀ b, b < w.heap.size → ¬ ((f b = 1 ∨ (8 ≤ f b ∧ f b % 2 = 0)) ∧ B ≤ b) → w'.heap[b]? = w.heap[b]? := by
  obtain ⟨A, c, hv⟩ := h.form
  rw [hv] at h ⊢
  have Hsucc := hide (fun j (hj : j < l.length) => by have h := sumTo_succ (lensJ l) j (by rw [lensJ_len]; exact hj); rw [lensJ_get] at h; exact h)
  have Hle := hide (fun j => sumTo_le (lensJ l) j)
  have Hall := hide (by have h := sumTo_all (lensJ l); rw [lensJ_len] at h; exact h)
  have Hz := hide (show l.length + (lensJ l).sum ≤ 1048576 from hz)
  have Hsz := hide (show sizeJ l = l.length + (lensJ l).sum from rfl)
  have hln : l.length ≤ 1048576 := by have := Hz.out; omega
  replace h := hide h
  clear hz
  go_enter Try.func41, Try.ntmps41
  go_wp2_with fail
  go_loopw [1, 5] (fun q i wr => ∃ (J : Nat), J ≤ l.length ∧ i = .int .i64 J ∧ q = .int .i64 ((k + J + sumTo (lensJ l) J : Nat) : Int) ∧ Hid (JobsO wr f B (.slice A l.length c) (midJobs k l J) kv) ∧ Hid (w.heap.size ≤ wr.heap.size ∧ (wr.os = w.os ∧ wr.tape = w.tape ∧ wr.output = w.output) ∧ ∀ b, b < w.heap.size → ¬ ((f b = 1 ∨ (8 ≤ f b ∧ f b % 2 = 0)) ∧ B ≤ b) → wr.heap[b]? = w.heap[b]?)) (fun _ i _ => l.length - (intOf i).toNat)
  case atStart => exact ⟨0, Nat.zero_le _, rfl, by rw [sumTo_zero]; rfl, hide (by rw [midJobs_zero]; exact h.out), hide ⟨Nat.le_refl _, ⟨rfl, rfl, rfl⟩, fun _ _ _ => rfl⟩⟩
  case round =>
    obtain ⟨J, hJ, rfl, rfl, hO, hF⟩ := hrel
    by_cases hlt : J < l.length
    · have hs := Hsucc.out J hlt
      have hl1 := Hle.out (J + 1)
      have hz0 := Hz.out
      have hml : (midJobs k l J).length = l.length := midJobs_len k l J
      have hgJ : getj (midJobs k l J) J = getj l J := by rw [midJobs_get hlt, if_neg (by omega)]
      have hH := hO.out.heads
      rw [hml] at hH
      obtain ⟨q, off, c', e, h3, h4, h5, h6⟩ := hH.at_ (k := J * 2) (by omega)
      cases e
      obtain ⟨g0, z0⟩ := h6 (J * 2) (by omega)
      obtain ⟨g1, -⟩ := h6 (J * 2 + 1) (by omega)
      obtain ⟨x, hx⟩ : ∃ x, x = k + J + sumTo (lensJ l) J := ⟨_, rfl⟩
      rw [← hx]
      have hxb : x ≤ 3145728 := by omega
      -- the value, written
      have hS1 := hH.set_ (k := J * 2) rfl (by omega) (.int .i64 (x : Int))
      have hL1 : Lab f 1 B wr (wr.setCell ⟨q, off + J * 2, none⟩ (.int .i64 (x : Int))) := Lab.set_ (p := ⟨q, off + J * 2, none⟩) ⟨h3, h4⟩ _
      have hE1 := fun j (hj : j < l.length) => (hO.out.each j (by rw [hml]; exact hj)).other hL1 (by omega)
      have hK := hE1 J hlt
      rw [hgJ] at hK
      rw [gJob_k] at g1
      obtain ⟨AJ, cJ, hkv⟩ := hK.form
      rw [hkv] at g1
      have kM := hide (markIntS_sl (x + 1) (wr.setCell ⟨q, off + J * 2, none⟩ (.int .i64 (x : Int))) (by omega) (by omega) hK)
      rw [hkv] at kM
      replace g1 := hide g1
      have g2 : (wr.setCell ⟨q, off + J * 2, none⟩ (.int .i64 (x : Int))).cell? ⟨q, off + J * 2 + 1, none⟩ = some (.slice AJ (getj l J).ks.length cJ) := by
        rw [World.cell?_setCell_other _ _ _ _ (by simp)]
        rw [← Nat.add_assoc] at g1
        exact g1.out
      have hN : ∀ w', Sl 3 1 w' f (8 + J * 2) B (.slice AJ (getj l J).ks.length cJ) (getj l J).ks.length (fun j => .int .i64 ((x + 1 + j : Nat) : Int)) → Lab f (8 + J * 2) B (wr.setCell ⟨q, off + J * 2, none⟩ (.int .i64 (x : Int))) w' → JobsO w' f B (.slice (some ⟨q, off, none⟩) l.length c) (midJobs k l (J + 1)) kv := fun w' hk' hL' => by
        rw [← hkv] at hk'
        refine ⟨?_, fun j hj => ?_⟩
        · rw [midJobs_len]
          refine (hS1.other hL' (by omega)).congr (fun m hm => ?_)
          show gJob (midJobs k l (J + 1)) kv m = if m = J * 2 then .int .i64 (x : Int) else gJob (midJobs k l J) kv m
          unfold gJob
          by_cases e : m % 2 = 0
          · rw [if_pos e, if_pos e, midJobs_get (by omega), midJobs_get (by omega)]
            by_cases e2 : m = J * 2
            · rw [if_pos e2, if_pos (by omega)]
              have : m / 2 = J := by omega
              rw [this]
              show Value.int .i64 ((k + J + sumTo (lensJ l) J : Nat) : Int) = _
              rw [hx]
            · rw [if_neg e2]
              by_cases e3 : m / 2 < J
              · rw [if_pos e3, if_pos (by omega)]
              · rw [if_neg e3, if_neg (by omega)]
          · rw [if_neg e, if_neg e, if_neg (by omega)]
        · rw [midJobs_len] at hj
          rw [midJobs_get hj]
          by_cases e : j = J
          · subst e
            rw [if_pos (by omega)]
            show Sl _ 1 w' f (8 + j * 2) B (kv j) (marks (k + j + sumTo (lensJ l) j + 1) (getj l j).ks.length).length _
            rw [marks_len]
            refine hk'.congr (fun m hm => ?_)
            show Value.int .i64 (geti (marks (k + j + sumTo (lensJ l) j + 1) (getj l j).ks.length) m) = _
            rw [marks_get _ _ _ (by omega), hx]
          · have h7 := (hE1 j hj).other hL' (by omega)
            rw [midJobs_get hj] at h7
            by_cases e2 : j < J
            · rw [if_pos e2] at h7
              rw [if_pos (by omega)]
              exact h7
            · rw [if_neg e2] at h7
              rw [if_neg (by omega)]
              exact h7
      have hNF : ∀ w', Lab f (8 + J * 2) B (wr.setCell ⟨q, off + J * 2, none⟩ (.int .i64 (x : Int))) w' → (w.heap.size ≤ w'.heap.size ∧ (w'.os = w.os ∧ w'.tape = w.tape ∧ w'.output = w.output) ∧ ∀ b, b < w.heap.size → ¬ ((f b = 1 ∨ (8 ≤ f b ∧ f b % 2 = 0)) ∧ B ≤ b) → w'.heap[b]? = w.heap[b]?) := fun w' hL' => by
        obtain ⟨f1, ⟨f2, f3, f4⟩, f5⟩ := hF.out
        have s1 := hL1.size
        have s2 := hL'.size
        refine ⟨by omega, ⟨hL'.os.trans (hL1.os.trans f2), hL'.tape.trans (hL1.tape.trans f3), hL'.output.trans (hL1.output.trans f4)⟩, fun b hb hn => ?_⟩
        have hn1 : ¬ (f b = 1 ∧ B ≤ b) := fun e => hn ⟨.inl e.1, e.2⟩
        have hn2 : ¬ (f b = 8 + J * 2 ∧ B ≤ b) := fun e => hn ⟨.inr (by omega), e.2⟩
        exact (hL'.block b (by omega) hn2).trans ((hL1.block b (by omega) hn1).trans (f5 b hb hn))
      replace hN := hide hN
      replace hNF := hide hNF
      have hlt' : (J : Int) < (l.length : Int) := by omega
      have hs' := hide (show x + 1 + (getj l J).ks.length = k + (J + 1) + sumTo (lensJ l) (J + 1) by omega)
      have hxi : IntKind.i64.wrap ((x : Int) + 1) = ((x + 1 : Nat) : Int) := by rw [IntKind.wrap_i64]; omega
      clear hx hS1 hL1 hE1 hK hgJ hH h6 hs hl1 hz0 hO hF hkv g1
      go_wp2_with (go_at_call 83; refine kM.out.mono ?_; rintro e w' ⟨rfl, hk', hL'⟩)
      go_roundw
      case rel => exact ⟨J + 1, by omega, by go_num, by rw [← hs'.out]; go_num, hide (hN.out _ hk' hL'), hide (hNF.out _ hL')⟩
      case measure => simp [intOf]; omega
    · obtain rfl : J = l.length := by omega
      have hE := hide (show k + l.length + sumTo (lensJ l) l.length = k + sizeJ l by rw [Hsz.out]; have := Hall.out; omega)
      go_wp2_with fail
      go_ret
      exact ⟨ret_int (by rw [← hE.out]), hO.out, hF.out⟩

set_option maxRecDepth 100000 in
set_option maxHeartbeats 3200000 in
theorem markRowS_o {f : Nat → Nat} {B : Nat} {v : Value} {rs : List (List Int)} {rv : Nat → Value} (k : Nat) (w : World) (hz : sizeQ rs ≤ 1048576) (hk : k ≤ 3145728) (h : RowsO w f B v rs rv) :
    Calls Try.prog 84 #[v, .int .i64 k] w fun e w' => e = .returned (.int .i64 ((k + (lensQ rs).sum : Nat) : Int)) ∧ RowsO w' f B v (midQ k rs rs.length) rv ∧ w.heap.size ≤ w'.heap.size ∧ (w'.os = w.os ∧ w'.tape = w.tape ∧ w'.output = w.output) ∧ ∀ b, b < w.heap.size → ¬ ((9 ≤ f b ∧ f b % 2 = 1) ∧ B ≤ b) → w'.heap[b]? = w.heap[b]? := by
  obtain ⟨A, c, hv⟩ := h.heads.form
  rw [hv] at h ⊢
  have Hsucc := hide (fun j (hj : j < rs.length) => by have h := sumTo_succ (lensQ rs) j (by rw [lensQ_len]; exact hj); rw [lensQ_get] at h; exact h)
  have Hle := hide (fun j => sumTo_le (lensQ rs) j)
  have Hall := hide (by have h := sumTo_all (lensQ rs); rw [lensQ_len] at h; exact h)
  have Hz := hide (show rs.length + (lensQ rs).sum ≤ 1048576 from hz)
  have hln : rs.length ≤ 1048576 := by have := Hz.out; omega
  replace h := hide h
  clear hz
  go_enter Try.func84, Try.ntmps84
  go_wp2_with fail
  go_loopw [1, 5] (fun q i wr => ∃ (J : Nat), J ≤ rs.length ∧ i = .int .i64 J ∧ q = .int .i64 ((k + sumTo (lensQ rs) J : Nat) : Int) ∧ Hid (RowsO wr f B (.slice A rs.length c) (midQ k rs J) rv) ∧ Hid (w.heap.size ≤ wr.heap.size ∧ (wr.os = w.os ∧ wr.tape = w.tape ∧ wr.output = w.output) ∧ ∀ b, b < w.heap.size → ¬ ((9 ≤ f b ∧ f b % 2 = 1) ∧ B ≤ b) → wr.heap[b]? = w.heap[b]?)) (fun _ i _ => rs.length - (intOf i).toNat)
  case atStart => exact ⟨0, Nat.zero_le _, rfl, by rw [sumTo_zero]; rfl, hide (by rw [midQ_zero]; exact h.out), hide ⟨Nat.le_refl _, ⟨rfl, rfl, rfl⟩, fun _ _ _ => rfl⟩⟩
  case round =>
    obtain ⟨J, hJ, rfl, rfl, hO, hF⟩ := hrel
    by_cases hlt : J < rs.length
    · have hs := Hsucc.out J hlt
      have hl1 := Hle.out (J + 1)
      have hz0 := Hz.out
      have hml : (midQ k rs J).length = rs.length := midQ_len k rs J
      have hgJ : getq (midQ k rs J) J = getq rs J := by rw [midQ_get hlt, if_neg (by omega)]
      have hH := hO.out.heads
      rw [hml] at hH
      obtain ⟨q, off, c', e, h3, h4, h5, h6⟩ := hH.at_ (k := J) (by omega)
      cases e
      obtain ⟨g1, -⟩ := h6 J (by omega)
      obtain ⟨x, hx⟩ : ∃ x, x = k + sumTo (lensQ rs) J := ⟨_, rfl⟩
      rw [← hx]
      have hxb : x ≤ 4194304 := by omega
      have hE1 := fun j (hj : j < rs.length) => hO.out.each j (by rw [hml]; exact hj)
      have hK := hE1 J hlt
      rw [hgJ] at hK
      obtain ⟨AJ, cJ, hkv⟩ := hK.form
      rw [hkv] at g1
      have kM := hide (markIntS_sl x wr (by omega) (by omega) hK)
      rw [hkv] at kM
      have hN : ∀ w', Sl 3 1 w' f (9 + J * 2) B (.slice AJ (getq rs J).length cJ) (getq rs J).length (fun j => .int .i64 ((x + j : Nat) : Int)) → Lab f (9 + J * 2) B wr w' → RowsO w' f B (.slice (some ⟨q, off, none⟩) rs.length c) (midQ k rs (J + 1)) rv := fun w' hk' hL' => by
        rw [← hkv] at hk'
        refine ⟨?_, fun j hj => ?_⟩
        · rw [midQ_len]
          exact hH.other hL' (by omega)
        · rw [midQ_len] at hj
          rw [midQ_get hj]
          by_cases e : j = J
          · subst e
            rw [if_pos (by omega)]
            show Sl _ 1 w' f (9 + j * 2) B (rv j) (marks (k + sumTo (lensQ rs) j) (getq rs j).length).length _
            rw [marks_len]
            refine hk'.congr (fun m hm => ?_)
            show Value.int .i64 (geti (marks (k + sumTo (lensQ rs) j) (getq rs j).length) m) = _
            rw [marks_get _ _ _ (by omega), hx]
          · have h7 := (hE1 j hj).other hL' (by omega)
            rw [midQ_get hj] at h7
            by_cases e2 : j < J
            · rw [if_pos e2] at h7
              rw [if_pos (by omega)]
              exact h7
            · rw [if_neg e2] at h7
              rw [if_neg (by omega)]
              exact h7
      have hNF : ∀ w', Lab f (9 + J * 2) B wr w' → (w.heap.size ≤ w'.heap.size ∧ (w'.os = w.os ∧ w'.tape = w.tape ∧ w'.output = w.output) ∧ ∀ b, b < w.heap.size → ¬ ((9 ≤ f b ∧ f b % 2 = 1) ∧ B ≤ b) → w'.heap[b]? = w.heap[b]?) := fun w' hL' => by
        obtain ⟨f1, ⟨f2, f3, f4⟩, f5⟩ := hF.out
        have s2 := hL'.size
        refine ⟨by omega, ⟨hL'.os.trans f2, hL'.tape.trans f3, hL'.output.trans f4⟩, fun b hb hn => ?_⟩
        have hn2 : ¬ (f b = 9 + J * 2 ∧ B ≤ b) := fun e => hn ⟨by omega, e.2⟩
        exact (hL'.block b (by omega) hn2).trans (f5 b hb hn)
      replace hN := hide hN
      replace hNF := hide hNF
      have hlt' : (J : Int) < (rs.length : Int) := by omega
      have hs' := hide (show x + (getq rs J).length = k + sumTo (lensQ rs) (J + 1) by omega)
      clear hx hE1 hK hgJ hH h6 hs hl1 hz0 hO hF hkv
      go_wp2_with (go_at_call 83; refine kM.out.mono ?_; rintro e w' ⟨rfl, hk', hL'⟩)
      go_roundw
      case rel => exact ⟨J + 1, by omega, by go_num, by rw [← hs'.out]; go_num, hide (hN.out _ hk' hL'), hide (hNF.out _ hL')⟩
      case measure => simp [intOf]; omega
    · obtain rfl : J = rs.length := by omega
      have hE := hide (show k + sumTo (lensQ rs) rs.length = k + (lensQ rs).sum by have := Hall.out; omega)
      go_wp2_with fail
      go_ret
      exact ⟨ret_int (by rw [← hE.out]), hO.out, hF.out⟩

set_option maxRecDepth 100000 in
set_option maxHeartbeats 3200000 in
theorem heldJobS_o (A : Option Addr) (l : List JobD) (c k : Nat) (S : Nat → Prop) (w : World) (hz : sizeJ l ≤ 1048576) (hk : k ≤ 2097152) (hS : ∀ b, S b → b < w.heap.size) (ha : JobsAt w S A (midJobs k l l.length)) :
    Calls Try.prog 86 #[.slice A l.length c, .int .i64 k] w fun e w' => e = .returned (.int .i64 ((k + sizeJ l : Nat) : Int)) ∧ w = w' := by
  have Hsucc := hide (fun j (hj : j < l.length) => by have h := sumTo_succ (lensJ l) j (by rw [lensJ_len]; exact hj); rw [lensJ_get] at h; exact h)
  have Hle := hide (fun j => sumTo_le (lensJ l) j)
  have Hall := hide (by have h := sumTo_all (lensJ l); rw [lensJ_len] at h; exact h)
  have Hz := hide (show l.length + (lensJ l).sum ≤ 1048576 from hz)
  have Hsz := hide (show sizeJ l = l.length + (lensJ l).sum from rfl)
  have hln : l.length ≤ 1048576 := by have := Hz.out; omega
  clear hz
  go_enter Try.func86, Try.ntmps86
  go_wp2_with fail
  go_loop [1, 5] (fun q i => ∃ (J : Nat), J ≤ l.length ∧ i = .int .i64 J ∧ q = .int .i64 ((k + J + sumTo (lensJ l) J : Nat) : Int)) (fun _ i => l.length - (intOf i).toNat)
  case atStart => exact ⟨0, Nat.zero_le _, rfl, by rw [sumTo_zero]; rfl⟩
  case round =>
    obtain ⟨J, hJ, rfl, rfl⟩ := hrel
    by_cases hlt : J < l.length
    · have hs := Hsucc.out J hlt
      have hl1 := Hle.out (J + 1)
      have hz0 := Hz.out
      obtain ⟨b, off, rfl, hb, g0, A', c', g1, -, h4⟩ := ha.at_ (k := J) (by rw [midJobs_len]; exact hlt)
      have hgJ : getj (midJobs k l l.length) J = mkJob k l J := by rw [midJobs_get hlt, if_pos hlt]
      rw [hgJ] at g0 g1 h4
      obtain ⟨x, hx⟩ : ∃ x, x = k + J + sumTo (lensJ l) J := ⟨_, rfl⟩
      have e1 : (mkJob k l J).v = ((x : Nat) : Int) := by rw [hx]; rfl
      have e2 : (mkJob k l J).ks = marks (x + 1) (getj l J).ks.length := by rw [hx]; rfl
      rw [e1] at g0
      rw [e2] at g1 h4
      rw [marks_len] at g1
      rw [← hx]
      have hxb : x ≤ 3145728 := by omega
      have kH := hide (heldIntS_any A' (getj l J).ks.length c' (x + 1) S w (by omega) (by omega) hS h4)
      have hs' := hide (show x + 1 + (getj l J).ks.length = k + (J + 1) + sumTo (lensJ l) (J + 1) by omega)
      have hlt' : (J : Int) < (l.length : Int) := by omega
      have hxi : IntKind.i64.wrap ((x : Int) + 1) = ((x + 1 : Nat) : Int) := by rw [IntKind.wrap_i64]; omega
      have hnn : decide (((x + 1 + (getj l J).ks.length : Nat) : Int) < 0) = false := decide_eq_false (by omega)
      have hsl : (getj l J).ks.length ≤ 1048576 := by omega
      clear hx e1 e2 hgJ h4 hs hl1 hz0
      go_wp2_with (go_at_call 89; refine kH.out.mono ?_; rintro e w' ⟨rfl, rfl⟩)
      go_round
      case rel => exact ⟨J + 1, by omega, by go_num, by rw [← hs'.out]; go_num⟩
      case measure => simp [intOf]; omega
    · obtain rfl : J = l.length := by omega
      have hE := hide (show k + l.length + sumTo (lensJ l) l.length = k + sizeJ l by rw [Hsz.out]; have := Hall.out; omega)
      go_wp2_with fail
      go_ret
      exact ⟨ret_int (by have := hE.out; omega), rfl⟩

set_option maxRecDepth 100000 in
set_option maxHeartbeats 3200000 in
theorem heldRowS_o (A : Option Addr) (rs : List (List Int)) (c k : Nat) (S : Nat → Prop) (w : World) (hz : sizeQ rs ≤ 1048576) (hk : k ≤ 3145728) (hS : ∀ b, S b → b < w.heap.size) (ha : DqAt w S A (midQ k rs rs.length)) :
    Calls Try.prog 87 #[.slice A rs.length c, .int .i64 k] w fun e w' => e = .returned (.int .i64 ((k + (lensQ rs).sum : Nat) : Int)) ∧ w = w' := by
  have Hsucc := hide (fun j (hj : j < rs.length) => by have h := sumTo_succ (lensQ rs) j (by rw [lensQ_len]; exact hj); rw [lensQ_get] at h; exact h)
  have Hle := hide (fun j => sumTo_le (lensQ rs) j)
  have Hall := hide (by have h := sumTo_all (lensQ rs); rw [lensQ_len] at h; exact h)
  have Hz := hide (show rs.length + (lensQ rs).sum ≤ 1048576 from hz)
  have hln : rs.length ≤ 1048576 := by have := Hz.out; omega
  clear hz
  go_enter Try.func87, Try.ntmps87
  go_wp2_with fail
  go_loop [1, 5] (fun q i => ∃ (J : Nat), J ≤ rs.length ∧ i = .int .i64 J ∧ q = .int .i64 ((k + sumTo (lensQ rs) J : Nat) : Int)) (fun _ i => rs.length - (intOf i).toNat)
  case atStart => exact ⟨0, Nat.zero_le _, rfl, by rw [sumTo_zero]; rfl⟩
  case round =>
    obtain ⟨J, hJ, rfl, rfl⟩ := hrel
    by_cases hlt : J < rs.length
    · have hs := Hsucc.out J hlt
      have hl1 := Hle.out (J + 1)
      have hz0 := Hz.out
      obtain ⟨b, off, rfl, hb, A', c', g1, -, h4⟩ := ha.at_ (k := J) (by rw [midQ_len]; exact hlt)
      have hgJ : getq (midQ k rs rs.length) J = mkQ k rs J := by rw [midQ_get hlt, if_pos hlt]
      rw [hgJ] at g1 h4
      obtain ⟨x, hx⟩ : ∃ x, x = k + sumTo (lensQ rs) J := ⟨_, rfl⟩
      have e2 : mkQ k rs J = marks x (getq rs J).length := by rw [hx]; rfl
      rw [e2] at g1 h4
      rw [marks_len] at g1
      rw [← hx]
      have hxb : x ≤ 4194304 := by omega
      have kH := hide (heldIntS_any A' (getq rs J).length c' x S w (by omega) (by omega) hS h4)
      have hs' := hide (show x + (getq rs J).length = k + sumTo (lensQ rs) (J + 1) by omega)
      have hlt' : (J : Int) < (rs.length : Int) := by omega
      have hnn : decide (((x + (getq rs J).length : Nat) : Int) < 0) = false := decide_eq_false (by omega)
      have hsl : (getq rs J).length ≤ 1048576 := by omega
      clear hx e2 hgJ h4 hs hl1 hz0
      go_wp2_with (go_at_call 89; refine kH.out.mono ?_; rintro e w' ⟨rfl, rfl⟩)
      go_round
      case rel => exact ⟨J + 1, by omega, by go_num, by rw [← hs'.out]; go_num⟩
      case measure => simp [intOf]; omega
    · obtain rfl : J = rs.length := by omega
      have hE := hide (show k + sumTo (lensQ rs) rs.length = k + (lensQ rs).sum by have := Hall.out; omega)
      go_wp2_with fail
      go_ret
      exact ⟨ret_int (by have := hE.out; omega), rfl⟩
end Go.Proofs.Ytfnphnjadknoaaa

namespace Go.Proofs.Ytfnphnjadknoaaa
open Go.RowKit

structure PA where
  A0 : Option Addr
  A1 : Option Addr
  A2 : Option Addr
  A3 : Option Addr
  A4 : Option Addr
  A5 : Option Addr
  A6 : Option Addr
  c0 : Nat
  c1 : Nat
  c2 : Nat
  c3 : Nat
  c4 : Nat
  c5 : Nat
  c6 : Nat
def PA.cells (a : PA) (p : PoolD) : Array Value := #[.slice a.A0 p.js.length a.c0, .slice a.A1 p.dq.length a.c1, .slice a.A2 p.ran.length a.c2, .slice a.A3 p.dn.length a.c3, .slice a.A4 p.lf.length a.c4, .slice a.A5 p.sm.length a.c5, .slice a.A6 p.vl.length a.c6]
structure PoolAt (w : World) (S : Nat → Prop) (a : PA) (p : PoolD) : Prop where
  jobs : JobsAt w S a.A0 p.js
  rows : DqAt w S a.A1 p.dq
  ran : BlsAt w S a.A2 p.ran
  dn : BlsAt w S a.A3 p.dn
  lf : IntsAt w S a.A4 p.lf
  sm : IntsAt w S a.A5 p.sm
  vl : IntsAt w S a.A6 p.vl
theorem PoolAt.below {w w' : World} {S : Nat → Prop} {B : Nat} {a : PA} {p : PoolD} (h : PoolAt w S a p) (hb : Below B w w') (hS : ∀ b, S b → b < B) : PoolAt w' S a p :=
  ⟨h.jobs.below hb hS, h.rows.below hb hS, h.ran.below hb hS, h.dn.below hb hS, h.lf.below hb hS, h.sm.below hb hS, h.vl.below hb hS⟩
theorem PoolAt.more {w : World} {S S' : Nat → Prop} {a : PA} {p : PoolD} (h : PoolAt w S a p) (hS : ∀ b, S b → S' b) : PoolAt w S' a p :=
  ⟨h.jobs.more hS, h.rows.more hS, h.ran.more hS, h.dn.more hS, h.lf.more hS, h.sm.more hS, h.vl.more hS⟩
theorem PoolAt.keep {w w' : World} {S S' : Nat → Prop} {a : PA} {p : PoolD} (h : PoolAt w S a p) (hk : ∀ b o, S b → w'.cell? ⟨b, o, none⟩ = w.cell? ⟨b, o, none⟩) (hS : ∀ b, S b → S' b) : PoolAt w' S' a p :=
  ⟨h.jobs.keep hk hS, h.rows.keep hk hS, h.ran.keep hk hS, h.dn.keep hk hS, h.lf.keep hk hS, h.sm.keep hk hS, h.vl.keep hk hS⟩
structure PV where
  L : Value
  D : Value
  R : Value
  N : Value
  F : Value
  M : Value
  V : Value
  kv : Nat → Value
  rv : Nat → Value
def PV.cells (x : PV) : Array Value := #[x.L, x.D, x.R, x.N, x.F, x.M, x.V]
structure PoolO (w : World) (f : Nat → Nat) (B : Nat) (x : PV) (p : PoolD) : Prop where
  jobs : JobsO w f B x.L p.js x.kv
  rows : RowsO w f B x.D p.dq x.rv
  ran : Sl 4 1 w f 3 B x.R p.ran.length (gB p.ran)
  dn : Sl 4 1 w f 4 B x.N p.dn.length (gB p.dn)
  lf : Sl 3 1 w f 5 B x.F p.lf.length (gI p.lf)
  sm : Sl 3 1 w f 6 B x.M p.sm.length (gI p.sm)
  vl : Sl 3 1 w f 7 B x.V p.vl.length (gI p.vl)
section
variable {w w' : World} {f f' : Nat → Nat} {B B' : Nat} {x : PV} {p : PoolD}
theorem PoolO.keep (h : PoolO w f B x p) (hk : ∀ b, f b ≠ 0 → B ≤ b → b < w.heap.size → w'.heap[b]? = w.heap[b]?) : PoolO w' f B x p :=
  ⟨h.jobs.keep (fun b hf => hk b (by omega)), h.rows.keep (fun b hf => hk b (by omega)), h.ran.keep (fun b hf => hk b (by omega)), h.dn.keep (fun b hf => hk b (by omega)), h.lf.keep (fun b hf => hk b (by omega)), h.sm.keep (fun b hf => hk b (by omega)), h.vl.keep (fun b hf => hk b (by omega))⟩
theorem PoolO.next (h : PoolO w f B x p) (hb : Below w.heap.size w w') : PoolO w' f B x p := h.keep (fun b _ _ hl => hb.block b hl)
theorem PoolO.relab (h : PoolO w f B x p) (hf : ∀ b, b < w.heap.size → f' b = f b) : PoolO w f' B x p :=
  ⟨h.jobs.relab hf, h.rows.relab hf, h.ran.relab hf, h.dn.relab hf, h.lf.relab hf, h.sm.relab hf, h.vl.relab hf⟩
theorem PoolO.base (h : PoolO w f B x p) (hB : B' ≤ B) : PoolO w f B' x p :=
  ⟨h.jobs.base hB, h.rows.base hB, h.ran.base hB, h.dn.base hB, h.lf.base hB, h.sm.base hB, h.vl.base hB⟩
theorem PoolO.at_ (h : PoolO w f B x p) : ∃ a : PA, x.cells = a.cells p ∧ PoolAt w (fun b => B ≤ b ∧ b < w.heap.size) a p := by
  obtain ⟨A0, c0, e0⟩ := h.jobs.form
  obtain ⟨A1, c1, e1⟩ := h.rows.heads.form
  obtain ⟨A2, c2, e2⟩ := h.ran.form
  obtain ⟨A3, c3, e3⟩ := h.dn.form
  obtain ⟨A4, c4, e4⟩ := h.lf.form
  obtain ⟨A5, c5, e5⟩ := h.sm.form
  obtain ⟨A6, c6, e6⟩ := h.vl.form
  refine ⟨⟨A0, A1, A2, A3, A4, A5, A6, c0, c1, c2, c3, c4, c5, c6⟩, ?_, h.jobs.at_ e0, h.rows.at_ e1, h.ran.blsO e2, h.dn.blsO e3, (h.lf.ints e4).more (fun _ h => h.2), (h.sm.ints e5).more (fun _ h => h.2), (h.vl.ints e6).more (fun _ h => h.2)⟩
  unfold PV.cells PA.cells
  rw [e0, e1, e2, e3, e4, e5, e6]
end
def poolSize (p : PoolD) : Nat := sizeJ p.js + sizeQ p.dq + p.ran.length + p.dn.length + p.lf.length + p.sm.length + p.vl.length
theorem box7 {w : World} {g : Nat} {t : TypeId} {a0 a1 a2 a3 a4 a5 a6 : Value} (h : Blk w g t #[a0, a1, a2, a3, a4, a5, a6]) :
    (w.cell? ⟨g, 0, none⟩ = some a0 ∧ w.cell? ⟨g, 1, none⟩ = some a1 ∧ w.cell? ⟨g, 2, none⟩ = some a2 ∧ w.cell? ⟨g, 3, none⟩ = some a3 ∧ w.cell? ⟨g, 4, none⟩ = some a4 ∧ w.cell? ⟨g, 5, none⟩ = some a5 ∧ w.cell? ⟨g, 6, none⟩ = some a6) ∧ g < w.heap.size :=
  ⟨⟨h.cell 0, h.cell 1, h.cell 2, h.cell 3, h.cell 4, h.cell 5, h.cell 6⟩, h.lt⟩
theorem froz7 {w : World} {g : Nat} {t : TypeId} {cs : Array Value} (h : Blk w g t cs) :
    w.frozen? ⟨g, 0, none⟩ = false ∧ w.frozen? ⟨g, 1, none⟩ = false ∧ w.frozen? ⟨g, 2, none⟩ = false ∧ w.frozen? ⟨g, 3, none⟩ = false ∧ w.frozen? ⟨g, 4, none⟩ = false ∧ w.frozen? ⟨g, 5, none⟩ = false ∧ w.frozen? ⟨g, 6, none⟩ = false :=
  ⟨h.frozen 0, h.frozen 1, h.frozen 2, h.frozen 3, h.frozen 4, h.frozen 5, h.frozen 6⟩
end Go.Proofs.Ytfnphnjadknoaaa
