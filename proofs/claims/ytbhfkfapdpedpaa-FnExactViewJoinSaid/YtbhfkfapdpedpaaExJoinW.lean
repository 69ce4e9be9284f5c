/- The walk of FnExactViewJoin: it answers true and leaves its arguments. -/
import Derived.Test.YtbhfkfapdpedpaaExH
import Derived.Test.YtbhfkfapdpedpaaImVj
import Derived.Deep.RegionLaw
import Derived.Deep.DeepCutAuto
import Derived.Deep.DrawnRows
namespace Go.Proofs.Ytbhfkfapdpedpaa
open Go.RowKit

attribute [local go_sem ↓] Go.wp_at_zero Go.wp_at_succ

set_option maxHeartbeats 800000 in
theorem exViewJoin_biga (A D E : Option Addr) (hs : List (List PostD)) (c m d k e0 : Nat) (w : World) (hm2 : 1048576 < m) :
    Calls Try.prog 14 #[.slice A hs.length c, .slice D m d, .slice E k e0] w fun e w' => e = .returned (.bool true) ∧ Below w.heap.size w w' := by
  have hmi : (1048576 : Int) < m := by omega
  go_enter Try.func14, Try.ntmps14
  go_wp2
  go_ret
  exact ⟨rfl, Below.refl _ _⟩
set_option maxHeartbeats 800000 in
theorem exViewJoin_bigb (A D E : Option Addr) (hs : List (List PostD)) (c m d k e0 : Nat) (w : World) (hm2 : m ≤ 1048576) (hk2 : 1048576 < k) :
    Calls Try.prog 14 #[.slice A hs.length c, .slice D m d, .slice E k e0] w fun e w' => e = .returned (.bool true) ∧ Below w.heap.size w w' := by
  have hmi : ¬ (1048576 : Int) < m := by omega
  have hki : (1048576 : Int) < k := by omega
  go_enter Try.func14, Try.ntmps14
  go_wp2
  go_ret
  exact ⟨rfl, Below.refl _ _⟩
set_option maxHeartbeats 800000 in
theorem exViewJoin_bigh (A D E : Option Addr) (hs : List (List PostD)) (c m d k e0 : Nat) (w : World) (hm2 : m ≤ 1048576) (hk2 : k ≤ 1048576) (hp2 : 1048576 < histSize hs) (hS : HistsAt w (Old w.heap.size) A hs) :
    Calls Try.prog 14 #[.slice A hs.length c, .slice D m d, .slice E k e0] w fun e w' => e = .returned (.bool true) ∧ Below w.heap.size w w' := by
  have hmi : ¬ (1048576 : Int) < m := by omega
  have hki : ¬ (1048576 : Int) < k := by omega
  have ks := hide (szHistS_big (c := c) hp2 w (Nat.le_refl _) hS)
  clear hS
  go_enter Try.func14, Try.ntmps14
  go_wp2_with fail
  refine ks.out.mono ?_
  rintro e w1 ⟨rfl, hb1⟩
  go_wp2_with fail
  go_ret
  exact ⟨rfl, hb1⟩
theorem hlens_le2 (hs : List (List PostD)) : (hlens hs).sum ≤ 3 * (postLens hs).sum := by
  unfold hlens postLens
  induction hs with
  | nil => simp
  | cons l hs ih =>
    have := histN_le l
    simp only [List.map_cons, List.sum_cons] at ih ⊢
    omega

set_option maxRecDepth 100000 in
set_option maxHeartbeats 12800000 in
theorem exViewJoin_small (A D E : Option Addr) (hs : List (List PostD)) (av bv ys : List Int) (c m d k e0 N : Nat) (w : World) (hnm : m ≤ 1048576) (hnk : k ≤ 1048576) (hp2 : histSize hs ≤ 1048576) (hav : av.length = m) (hbv : bv.length = k) (hy : ys.length = N) (hN : N ≤ 1048576) (hS : HistsAt w (Old w.heap.size) A hs) (hM : IntsAt w (Old w.heap.size) D av) (hK : IntsAt w (Old w.heap.size) E bv)
    (kS : ∀ A' D' E' w, HistsAt w (Old w.heap.size) A' hs → IntsAt w (Old w.heap.size) D' av → IntsAt w (Old w.heap.size) E' bv → Calls Try.prog 32 #[.slice A' hs.length hs.length, .slice D' m m, .slice E' k k] w fun e w' => RowR 3 w w' e N ys)
    (kP : ∀ A' D' E' w, HistsAt w (Old w.heap.size) A' hs → IntsAt w (Old w.heap.size) D' av → IntsAt w (Old w.heap.size) E' bv → Calls Try.prog 30 #[.slice A' hs.length hs.length, .slice D' m m, .slice E' k k] w fun e w' => RowR 3 w w' e N ys) :
    Calls Try.prog 14 #[.slice A hs.length c, .slice D m d, .slice E k e0] w fun e w' => e = .returned (.bool true) ∧ Below w.heap.size w w' := by
  replace hy := hide hy
  replace hav := hide hav
  replace hbv := hide hbv
  have hmi : ¬ (1048576 : Int) < m := by omega
  have hki : ¬ (1048576 : Int) < k := by omega
  have hZ : (hlens hs).sum ≤ 3145725 := by have h := hlens_le2 hs; unfold histSize at hp2; rcases Nat.eq_zero_or_pos hs.length with h0 | h0; (have e0 : hs = [] := List.eq_nil_of_length_eq_zero h0; subst e0; simp [hlens]); omega
  have hzk : markZ 1 (hlens hs).sum ≤ 4194304 := by unfold markZ; omega
  have hzk2 : markZ (markZ 1 (hlens hs).sum) m ≤ 4194304 := by unfold markZ; omega
  have hz0 : 0 ≤ markZ 1 (hlens hs).sum := markZ_ge (by omega)
  have hz1 : 0 ≤ markZ (markZ 1 (hlens hs).sum) m := markZ_ge hz0
  have hx1 : ¬ markZ (markZ (markZ 1 (hlens hs).sum) m) k < 0 := markZ_nonneg hz1
  have hx2 : ¬ markZ 1 N < 0 := markZ_nonneg (by omega)
  obtain ⟨s, hs0, ks⟩ := szHistS_small (A := A) (c := c) (B := w.heap.size) hp2
  replace kS := hide kS
  replace kP := hide kP
  replace ks := hide ks
  replace hp2 := hide hp2
  have S := hide hS
  have M := hide hM
  have K := hide hK
  have HB := hide (Below.refl w.heap.size w)
  have hzG : w.heap.size ≤ w.heap.size := Nat.le_refl _
  clear hS hM hK
  go_enter Try.func14, Try.ntmps14
  go_wp2_with fail
  refine (ks.out _ HB.out.size S.out).mono ?_
  rintro e w1 ⟨rfl, hb⟩
  have hzw1 := hb.size
  have hBz := HB.out.size
  replace S := hide (S.out.nextI hb hBz)
  replace M := hide (M.out.nextI hb hBz)
  replace K := hide (K.out.nextI hb hBz)
  replace HB := hide (below_next HB.out hb hBz)
  clear hBz
  clear hb
  go_wp2_with fail
  refine (toHistSI hp2.out (old_lts HB.out.size) S.out).mono ?_
  rintro e w2 ⟨qRa, rfl, hr, hb⟩
  have hzw2 := hb.size
  have hBz := HB.out.size
  replace S := hide (S.out.nextI hb hBz)
  replace M := hide (M.out.nextI hb hBz)
  replace K := hide (K.out.nextI hb hBz)
  replace HB := hide (below_next HB.out hb hBz)
  clear hBz
  clear hb
  have Ra := hide hr
  clear hr
  go_wp2_with fail
  refine (toIntSI hav.out hnm (old_lts HB.out.size) M.out).mono ?_
  rintro e w3 ⟨qRb, rfl, hr, hb⟩
  have hzw3 := hb.size
  have hBz := HB.out.size
  replace Ra := hide (Ra.out.next hb)
  replace S := hide (S.out.nextI hb hBz)
  replace M := hide (M.out.nextI hb hBz)
  replace K := hide (K.out.nextI hb hBz)
  replace HB := hide (below_next HB.out hb hBz)
  clear hBz
  clear hb
  have Rb := hide hr
  clear hr
  go_wp2_with fail
  refine (toIntSI hbv.out hnk (old_lts HB.out.size) K.out).mono ?_
  rintro e w4 ⟨qRc, rfl, hr, hb⟩
  have hzw4 := hb.size
  have hBz := HB.out.size
  replace Ra := hide (Ra.out.next hb)
  replace Rb := hide (Rb.out.next hb)
  replace S := hide (S.out.nextI hb hBz)
  replace M := hide (M.out.nextI hb hBz)
  replace K := hide (K.out.nextI hb hBz)
  replace HB := hide (below_next HB.out hb hBz)
  clear hBz
  clear hb
  have Rc := hide hr
  clear hr
  go_wp2_with fail
  refine (kS.out _ _ _ _ (Ra.out.src) (Rb.out.src (by have := hav.out; omega) rfl) (Rc.out.src (by have := hbv.out; omega) rfl)).mono ?_
  rintro e w5 ⟨AW0, cW0, rfl, hr, hb⟩
  have hzw5 := hb.size
  have hBz := HB.out.size
  replace Ra := hide (Ra.out.next hb)
  replace Rb := hide (Rb.out.next hb)
  replace Rc := hide (Rc.out.next hb)
  replace S := hide (S.out.nextI hb hBz)
  replace M := hide (M.out.nextI hb hBz)
  replace K := hide (K.out.nextI hb hBz)
  replace HB := hide (below_next HB.out hb hBz)
  clear hBz
  clear hb
  have W0 := hide (RvI.of hr)
  clear hr
  clear Ra
  clear Rb
  clear Rc
  go_wp2_with fail
  refine (toHistSI hp2.out (old_lts HB.out.size) S.out).mono ?_
  rintro e w6 ⟨qR0, rfl, hr, hb⟩
  have hzw6 := hb.size
  have hBz := HB.out.size
  replace W0 := hide (W0.out.next hb)
  replace S := hide (S.out.nextI hb hBz)
  replace M := hide (M.out.nextI hb hBz)
  replace K := hide (K.out.nextI hb hBz)
  replace HB := hide (below_next HB.out hb hBz)
  clear hBz
  clear hb
  have R0 := hide hr
  clear hr
  go_wp2_with fail
  refine (toIntSI hav.out hnm (old_lts HB.out.size) M.out).mono ?_
  rintro e w7 ⟨qR1, rfl, hr, hb⟩
  have hzw7 := hb.size
  have hBz := HB.out.size
  replace W0 := hide (W0.out.next hb)
  replace R0 := hide (R0.out.next hb)
  replace S := hide (S.out.nextI hb hBz)
  replace M := hide (M.out.nextI hb hBz)
  replace K := hide (K.out.nextI hb hBz)
  replace HB := hide (below_next HB.out hb hBz)
  clear hBz
  clear hb
  have R1 := hide hr
  clear hr
  go_wp2_with fail
  refine (toIntSI hbv.out hnk (old_lts HB.out.size) K.out).mono ?_
  rintro e w8 ⟨qR2, rfl, hr, hb⟩
  have hzw8 := hb.size
  have hBz := HB.out.size
  replace W0 := hide (W0.out.next hb)
  replace R0 := hide (R0.out.next hb)
  replace R1 := hide (R1.out.next hb)
  replace S := hide (S.out.nextI hb hBz)
  replace M := hide (M.out.nextI hb hBz)
  replace K := hide (K.out.nextI hb hBz)
  replace HB := hide (below_next HB.out hb hBz)
  clear hBz
  clear hb
  have R2 := hide hr
  clear hr
  go_wp2_with fail
  refine (kP.out _ _ _ _ (R0.out.src) (R1.out.src (by have := hav.out; omega) rfl) (R2.out.src (by have := hbv.out; omega) rfl)).mono ?_
  rintro e w9 ⟨AG0, cG0, rfl, hr, hb⟩
  have hzw9 := hb.size
  have hBz := HB.out.size
  replace W0 := hide (W0.out.next hb)
  replace R0 := hide (R0.out.next hb)
  replace R1 := hide (R1.out.next hb)
  replace R2 := hide (R2.out.next hb)
  replace S := hide (S.out.nextI hb hBz)
  replace M := hide (M.out.nextI hb hBz)
  replace K := hide (K.out.nextI hb hBz)
  replace HB := hide (below_next HB.out hb hBz)
  clear hBz
  clear hb
  have G0 := hide (RvI.of hr)
  clear hr
  go_wp2_with fail
  refine (eqIntSI hy.out (by omega) G0.out W0.out).mono ?_
  rintro e w10 ⟨rfl, hb⟩
  have hzw10 := hb.size
  have hBz := HB.out.size
  replace W0 := hide (W0.out.next hb)
  replace R0 := hide (R0.out.next hb)
  replace R1 := hide (R1.out.next hb)
  replace R2 := hide (R2.out.next hb)
  replace G0 := hide (G0.out.next hb)
  replace S := hide (S.out.nextI hb hBz)
  replace M := hide (M.out.nextI hb hBz)
  replace K := hide (K.out.nextI hb hBz)
  replace HB := hide (below_next HB.out hb hBz)
  clear hBz
  clear hb
  go_wp2_with fail
  refine (toHistSI hp2.out (old_lts HB.out.size) S.out).mono ?_
  rintro e w11 ⟨qRd, rfl, hr, hb⟩
  have hzw11 := hb.size
  have hBz := HB.out.size
  replace W0 := hide (W0.out.next hb)
  replace R0 := hide (R0.out.next hb)
  replace R1 := hide (R1.out.next hb)
  replace R2 := hide (R2.out.next hb)
  replace G0 := hide (G0.out.next hb)
  replace S := hide (S.out.nextI hb hBz)
  replace M := hide (M.out.nextI hb hBz)
  replace K := hide (K.out.nextI hb hBz)
  replace HB := hide (below_next HB.out hb hBz)
  clear hBz
  clear hb
  have Rd := hide hr
  clear hr
  go_wp2_with fail
  refine (eqHistSI R0.out Rd.out).mono ?_
  rintro e w12 ⟨rfl, hb⟩
  have hzw12 := hb.size
  have hBz := HB.out.size
  replace W0 := hide (W0.out.next hb)
  replace R0 := hide (R0.out.next hb)
  replace R1 := hide (R1.out.next hb)
  replace R2 := hide (R2.out.next hb)
  replace G0 := hide (G0.out.next hb)
  replace Rd := hide (Rd.out.next hb)
  replace S := hide (S.out.nextI hb hBz)
  replace M := hide (M.out.nextI hb hBz)
  replace K := hide (K.out.nextI hb hBz)
  replace HB := hide (below_next HB.out hb hBz)
  clear hBz
  clear hb
  clear Rd
  go_wp2_with fail
  refine (toIntSI hav.out hnm (old_lts HB.out.size) M.out).mono ?_
  rintro e w13 ⟨qRe, rfl, hr, hb⟩
  have hzw13 := hb.size
  have hBz := HB.out.size
  replace W0 := hide (W0.out.next hb)
  replace R0 := hide (R0.out.next hb)
  replace R1 := hide (R1.out.next hb)
  replace R2 := hide (R2.out.next hb)
  replace G0 := hide (G0.out.next hb)
  replace S := hide (S.out.nextI hb hBz)
  replace M := hide (M.out.nextI hb hBz)
  replace K := hide (K.out.nextI hb hBz)
  replace HB := hide (below_next HB.out hb hBz)
  clear hBz
  clear hb
  have Re := hide hr
  clear hr
  go_wp2_with fail
  refine (eqIntSI hav.out (by omega) R1.out Re.out).mono ?_
  rintro e w14 ⟨rfl, hb⟩
  have hzw14 := hb.size
  have hBz := HB.out.size
  replace W0 := hide (W0.out.next hb)
  replace R0 := hide (R0.out.next hb)
  replace R1 := hide (R1.out.next hb)
  replace R2 := hide (R2.out.next hb)
  replace G0 := hide (G0.out.next hb)
  replace Re := hide (Re.out.next hb)
  replace S := hide (S.out.nextI hb hBz)
  replace M := hide (M.out.nextI hb hBz)
  replace K := hide (K.out.nextI hb hBz)
  replace HB := hide (below_next HB.out hb hBz)
  clear hBz
  clear hb
  clear Re
  go_wp2_with fail
  refine (toIntSI hbv.out hnk (old_lts HB.out.size) K.out).mono ?_
  rintro e w15 ⟨qRf, rfl, hr, hb⟩
  have hzw15 := hb.size
  have hBz := HB.out.size
  replace W0 := hide (W0.out.next hb)
  replace R0 := hide (R0.out.next hb)
  replace R1 := hide (R1.out.next hb)
  replace R2 := hide (R2.out.next hb)
  replace G0 := hide (G0.out.next hb)
  replace S := hide (S.out.nextI hb hBz)
  replace M := hide (M.out.nextI hb hBz)
  replace K := hide (K.out.nextI hb hBz)
  replace HB := hide (below_next HB.out hb hBz)
  clear hBz
  clear hb
  have Rf := hide hr
  clear hr
  go_wp2_with fail
  refine (eqIntSI hbv.out (by omega) R2.out Rf.out).mono ?_
  rintro e w16 ⟨rfl, hb⟩
  have hzw16 := hb.size
  have hBz := HB.out.size
  replace W0 := hide (W0.out.next hb)
  replace R0 := hide (R0.out.next hb)
  replace R1 := hide (R1.out.next hb)
  replace R2 := hide (R2.out.next hb)
  replace G0 := hide (G0.out.next hb)
  replace Rf := hide (Rf.out.next hb)
  replace S := hide (S.out.nextI hb hBz)
  replace M := hide (M.out.nextI hb hBz)
  replace K := hide (K.out.nextI hb hBz)
  replace HB := hide (below_next HB.out hb hBz)
  clear hBz
  clear hb
  clear Rf
  go_wp2_with fail
  refine (markHistSI (k := 1) hp2.out (by omega) (by have := hp2.out; omega) R0.out).mono ?_
  rintro e w17 ⟨rfl, hI⟩
  have hzw17 := hI.size
  clear R0
  have hBz := HB.out.size
  replace W0 := hide (W0.out.inn hI (by omega))
  replace R1 := hide (R1.out.inn hI (by omega))
  replace R2 := hide (R2.out.inn hI (by omega))
  replace G0 := hide (G0.out.inn hI (by omega))
  replace S := hide (S.out.inn hI (by omega) hBz)
  replace M := hide (M.out.inn hI (by omega) hBz)
  replace K := hide (K.out.inn hI (by omega) hBz)
  replace HB := hide (below_inn HB.out hI (by omega) hBz)
  clear hBz hI
  go_wp2_with fail
  refine (markIntSI (k := markZ 1 (hlens hs).sum) hav.out hnm hz0 hzk R1.out).mono ?_
  rintro e w18 ⟨rfl, hr, hg⟩
  have hzw18 := hg.size
  have hBz := HB.out.size
  replace W0 := hide (by first | exact W0.out.grown hg R1.out (by omega) | exact W0.out.grownT hg R1.out (by decide))
  replace R2 := hide (by first | exact R2.out.grown hg R1.out (by omega) | exact R2.out.grownT hg R1.out (by decide))
  replace G0 := hide (by first | exact G0.out.grown hg R1.out (by omega) | exact G0.out.grownT hg R1.out (by decide))
  replace S := hide (S.out.grownI hg R1.out (by omega) hBz)
  replace M := hide (M.out.grownI hg R1.out (by omega) hBz)
  replace K := hide (K.out.grownI hg R1.out (by omega) hBz)
  replace HB := hide (below_grownI HB.out hg R1.out (by omega) hBz)
  replace R1 := hide hr
  clear hBz hg hr
  clear R1
  go_wp2_with fail
  refine (markIntSI (k := markZ (markZ 1 (hlens hs).sum) m) hbv.out hnk hz1 hzk2 R2.out).mono ?_
  rintro e w19 ⟨rfl, hr, hg⟩
  have hzw19 := hg.size
  have hBz := HB.out.size
  replace W0 := hide (by first | exact W0.out.grown hg R2.out (by omega) | exact W0.out.grownT hg R2.out (by decide))
  replace G0 := hide (by first | exact G0.out.grown hg R2.out (by omega) | exact G0.out.grownT hg R2.out (by decide))
  replace S := hide (S.out.grownI hg R2.out (by omega) hBz)
  replace M := hide (M.out.grownI hg R2.out (by omega) hBz)
  replace K := hide (K.out.grownI hg R2.out (by omega) hBz)
  replace HB := hide (below_grownI HB.out hg R2.out (by omega) hBz)
  replace R2 := hide hr
  clear hBz hg hr
  clear R2
  go_wp2_with fail
  refine (eqIntSI hy.out (by omega) G0.out W0.out).mono ?_
  rintro e w20 ⟨rfl, hb⟩
  have hzw20 := hb.size
  have hBz := HB.out.size
  replace W0 := hide (W0.out.next hb)
  replace G0 := hide (G0.out.next hb)
  replace S := hide (S.out.nextI hb hBz)
  replace M := hide (M.out.nextI hb hBz)
  replace K := hide (K.out.nextI hb hBz)
  replace HB := hide (below_next HB.out hb hBz)
  clear hBz
  clear hb
  go_wp2_with fail
  refine (markIntSI (k := 1) hy.out hN (by omega) (by omega) G0.out).mono ?_
  rintro e w21 ⟨rfl, hr, hg⟩
  have hzw21 := hg.size
  have hBz := HB.out.size
  replace W0 := hide (by first | exact W0.out.grown hg G0.out (by omega) | exact W0.out.grownT hg G0.out (by decide))
  replace S := hide (S.out.grownI hg G0.out (by omega) hBz)
  replace M := hide (M.out.grownI hg G0.out (by omega) hBz)
  replace K := hide (K.out.grownI hg G0.out (by omega) hBz)
  replace HB := hide (below_grownI HB.out hg G0.out (by omega) hBz)
  replace G0 := hide hr
  clear hBz hg hr
  go_wp2_with fail
  refine (heldIntSI (k := 1) hN (by omega) (by omega) G0.out).mono ?_
  rintro e w22 ⟨rfl, hb⟩
  have hzw22 := hb.size
  have hBz := HB.out.size
  replace W0 := hide (W0.out.next hb)
  replace G0 := hide (G0.out.next hb)
  replace S := hide (S.out.nextI hb hBz)
  replace M := hide (M.out.nextI hb hBz)
  replace K := hide (K.out.nextI hb hBz)
  replace HB := hide (below_next HB.out hb hBz)
  clear hBz
  clear hb
  go_wp2_with fail
  refine (toHistSI hp2.out (old_lts HB.out.size) S.out).mono ?_
  rintro e w23 ⟨qRh, rfl, hr, hb⟩
  have hzw23 := hb.size
  have hBz := HB.out.size
  replace W0 := hide (W0.out.next hb)
  replace G0 := hide (G0.out.next hb)
  replace S := hide (S.out.nextI hb hBz)
  replace M := hide (M.out.nextI hb hBz)
  replace K := hide (K.out.nextI hb hBz)
  replace HB := hide (below_next HB.out hb hBz)
  clear hBz
  clear hb
  have Rh := hide hr
  clear hr
  go_wp2_with fail
  refine (toIntSI hav.out hnm (old_lts HB.out.size) M.out).mono ?_
  rintro e w24 ⟨qRi, rfl, hr, hb⟩
  have hzw24 := hb.size
  have hBz := HB.out.size
  replace W0 := hide (W0.out.next hb)
  replace G0 := hide (G0.out.next hb)
  replace Rh := hide (Rh.out.next hb)
  replace S := hide (S.out.nextI hb hBz)
  replace M := hide (M.out.nextI hb hBz)
  replace K := hide (K.out.nextI hb hBz)
  replace HB := hide (below_next HB.out hb hBz)
  clear hBz
  clear hb
  have Ri := hide hr
  clear hr
  go_wp2_with fail
  refine (toIntSI hbv.out hnk (old_lts HB.out.size) K.out).mono ?_
  rintro e w25 ⟨qRj, rfl, hr, hb⟩
  have hzw25 := hb.size
  have hBz := HB.out.size
  replace W0 := hide (W0.out.next hb)
  replace G0 := hide (G0.out.next hb)
  replace Rh := hide (Rh.out.next hb)
  replace Ri := hide (Ri.out.next hb)
  replace S := hide (S.out.nextI hb hBz)
  replace M := hide (M.out.nextI hb hBz)
  replace K := hide (K.out.nextI hb hBz)
  replace HB := hide (below_next HB.out hb hBz)
  clear hBz
  clear hb
  have Rj := hide hr
  clear hr
  go_wp2_with fail
  refine (kP.out _ _ _ _ (Rh.out.src) (Ri.out.src (by have := hav.out; omega) rfl) (Rj.out.src (by have := hbv.out; omega) rfl)).mono ?_
  rintro e w26 ⟨AH0, cH0, rfl, hr, hb⟩
  have hzw26 := hb.size
  have hBz := HB.out.size
  replace W0 := hide (W0.out.next hb)
  replace G0 := hide (G0.out.next hb)
  replace Rh := hide (Rh.out.next hb)
  replace Ri := hide (Ri.out.next hb)
  replace Rj := hide (Rj.out.next hb)
  replace S := hide (S.out.nextI hb hBz)
  replace M := hide (M.out.nextI hb hBz)
  replace K := hide (K.out.nextI hb hBz)
  replace HB := hide (below_next HB.out hb hBz)
  clear hBz
  clear hb
  have H0 := hide (RvI.of hr)
  clear hr
  clear Rh
  clear Ri
  clear Rj
  go_wp2_with fail
  refine (eqIntSI hy.out (by omega) H0.out W0.out).mono ?_
  rintro e w27 ⟨rfl, hb⟩
  have hzw27 := hb.size
  have hBz := HB.out.size
  replace W0 := hide (W0.out.next hb)
  replace G0 := hide (G0.out.next hb)
  replace H0 := hide (H0.out.next hb)
  replace S := hide (S.out.nextI hb hBz)
  replace M := hide (M.out.nextI hb hBz)
  replace K := hide (K.out.nextI hb hBz)
  replace HB := hide (below_next HB.out hb hBz)
  clear hBz
  clear hb
  go_wp2_with fail
  refine (heldIntSI (k := 1) hN (by omega) (by omega) G0.out).mono ?_
  rintro e w28 ⟨rfl, hb⟩
  have hzw28 := hb.size
  have hBz := HB.out.size
  replace W0 := hide (W0.out.next hb)
  replace G0 := hide (G0.out.next hb)
  replace H0 := hide (H0.out.next hb)
  replace S := hide (S.out.nextI hb hBz)
  replace M := hide (M.out.nextI hb hBz)
  replace K := hide (K.out.nextI hb hBz)
  replace HB := hide (below_next HB.out hb hBz)
  clear hBz
  clear hb
  go_wp2_with fail
  go_ret
  exact ⟨rfl, HB.out⟩

theorem exViewJoin_walk (A : Option Addr) (hs : List (List PostD)) (c : Nat) (D : Option Addr) (av : List Int) (d : Nat) (E : Option Addr) (bv : List Int) (e0 : Nat) (w : World) (hS : HistsAt w (Old w.heap.size) A hs) (hM : IntsAt w (Old w.heap.size) D av) (hK : IntsAt w (Old w.heap.size) E bv)
    (hwf : ∀ k, k < hs.length → IdsWf (geth hs k)) (hwa : IntsWf av) (hwb : IntsWf bv) :
    Calls Try.prog 14 #[.slice A hs.length c, .slice D av.length d, .slice E bv.length e0] w fun e w' => e = .returned (.bool true) ∧ Below w.heap.size w w' := by
  by_cases h1 : av.length ≤ 1048576
  · by_cases h2 : bv.length ≤ 1048576
    · by_cases h3 : histSize hs ≤ 1048576
      · have hn2 : hs.length ≤ 1048576 := by unfold histSize at h3; omega
        by_cases h4 : av.length = hs.length ∧ bv.length = hs.length
        · have hsz : ∀ k, k < hs.length → (geth hs k).length ≤ 1048576 := fun k hk => by have h5 := posts_le hs k hk; unfold postSize at h5; omega
          refine exViewJoin_small A D E hs av bv (joinTo hs av bv hs.length) c av.length d bv.length e0 hs.length w h1 h2 h3 rfl rfl (joinTo_len _ _ _ _) hn2 hS hM hK (fun A' D' E' w a b c => ?_) (fun A' D' E' w a b c => ?_)
          · have h := sviewJoin_yes A' hs hs.length hs.length D' av hs.length E' bv hs.length w rfl hn2 h4.1 h4.2 a b c
            rw [h4.1, h4.2]
            exact h
          · have h := viewJoin_yes A' hs hs.length hs.length D' av hs.length E' bv hs.length w rfl hn2 h4.1 h4.2 hsz hwf hwa hwb a b c
            rw [h4.1, h4.2]
            exact h
        · exact exViewJoin_small A D E hs av bv [] c av.length d bv.length e0 0 w h1 h2 h3 rfl rfl rfl (by omega) hS hM hK (fun A' D' E' w _ _ _ => sviewJoin_no A' hs.length hs.length D' av.length av.length E' bv.length bv.length w h4) (fun A' D' E' w _ _ _ => viewJoin_no A' hs.length hs.length D' av.length av.length E' bv.length bv.length w h4)
      · exact exViewJoin_bigh A D E hs c av.length d bv.length e0 w h1 h2 (by omega) hS
    · exact exViewJoin_bigb A D E hs c av.length d bv.length e0 w h1 (by omega)
  · exact exViewJoin_biga A D E hs c av.length d bv.length e0 w (by omega)
end Go.Proofs.Ytbhfkfapdpedpaa
