/- DrawViewJoin: some histories, two views of them. -/
import Derived.Test.YtbhfkfapdpedpaaDVj0
import Derived.Deep.RegionLaw
import Derived.Deep.DeepCutAuto
namespace Go.Proofs.Ytbhfkfapdpedpaa
open Go.RowKit

attribute [local go_sem ↓] Go.wp_at_zero Go.wp_at_succ

theorem Try.infoHistV : (Try.prog.info? 45).map (fun i => (i.zero, i.size, i.bytes)) = some (some (.agg #[.slice none 0 0]), 1, 24) := by kernel_rfl
/-- Small numbers. -/
def Sm (zs : List Int) : Prop := ∀ x ∈ zs, 0 ≤ x ∧ x ≤ 99
theorem Sm.more {zs : List Int} {x : Int} (h : Sm zs) (hx : 0 ≤ x ∧ x ≤ 99) : Sm (zs ++ [x]) := by
  intro y hy
  rw [List.mem_append] at hy
  rcases hy with hy | hy
  · exact h y hy
  · simp at hy; subst hy; exact hx
theorem Sm.set {zs : List Int} {x : Int} (h : Sm zs) (k : Nat) (hx : 0 ≤ x ∧ x ≤ 99) : Sm (zs.set k x) := by
  intro y hy
  rcases List.mem_or_eq_of_mem_set hy with hy | rfl
  · exact h y hy
  · exact hx
/-- What DrawViewJoin hands back. -/
def ViewDrawn (w w' : World) (e : Ending) : Prop := ∃ C c A ca D cb, ∃ hs : List (List PostD), ∃ az bz : List Int, e = .returned (.tuple #[.slice C hs.length c, .slice A az.length ca, .slice D bz.length cb]) ∧ (hs.length ≤ 3 ∧ (az.length = hs.length ∨ az.length = hs.length + 1) ∧ bz.length = hs.length) ∧ HSmall hs ∧ Sm az ∧ Sm bz ∧ HistsAt w' (Old w'.heap.size) C hs ∧ IntsAt w' (Old w'.heap.size) A az ∧ IntsAt w' (Old w'.heap.size) D bz ∧ Below w.heap.size w w'

theorem DvAt.ends {w w0 w' : World} {g B : Nat} {hs : List (List PostD)} {az bz : List Int} {vh va vb : Value} (h : DvAt g B w0 hs az bz vh va vb w') (hsm : HSmall hs) (hl : hs.length ≤ 3 ∧ (az.length = hs.length ∨ az.length = hs.length + 1) ∧ bz.length = hs.length) (ha : Sm az) (hb : Sm bz) (hg : w.heap.size ≤ g) (hB : Below w.heap.size w w0) :
    ViewDrawn w w' (.returned (.tuple #[vh, va, vb])) := by
  obtain ⟨C, c, rfl, hC⟩ := h.hrow.at_ hsm (by omega)
  obtain ⟨A, ca, e⟩ := own_slice h.arow
  obtain ⟨D, cb, e2⟩ := own_slice h.brow
  subst e e2
  exact ⟨C, c, A, ca, D, cb, hs, az, bz, rfl, hl, hsm, ha, hb, hC.more (fun _ h => h.2), (own_intsT h.arow).more (fun _ h => h.2), (own_intsT h.brow).more (fun _ h => h.2), hB.trans (h.only.toBelow hg hB.size)⟩

set_option maxRecDepth 100000 in
set_option maxHeartbeats 6400000 in
theorem drawViewJoin_any (A : Option Addr) (n c : Nat) (w : World) (hn : n ≤ c) (ha : BytesAt w (Old w.heap.size) A n) :
    Calls Try.prog 29 #[.slice A n c] w fun e w' => ViewDrawn w w' e := by
  obtain ⟨i0, hi0, hz0, hz1, hz2⟩ := info_parts Try.infoHistV
  obtain ⟨i1, hi1, hy0, hy1, hy2⟩ := info_parts Try.infoInt
  have hi0 := hide hi0
  have hi1 := hide hi1
  go_enter Try.func29, Try.ntmps29
  go_wp2_with fail
  refine (l1New_any A n c _ hn ha).mono ?_
  rintro e w1 ⟨g, rfl, hg0, hc1, hb1⟩
  have hgl := hc1.lt
  replace hb1 := hide hb1
  clear ha
  go_wp2_with fail
  refine (l1Below_any g 4 w1 (by omega) (by omega) hc1).mono ?_
  rintro e w2 ⟨x, rfl, hx, hc2, ho2⟩
  have hx4 := belowP hx (by omega)
  obtain ⟨m0, rfl⟩ : ∃ m : Nat, x = m := ⟨x.toNat, by omega⟩
  have hm0 : m0 ≤ 3 := by omega
  have H := hide (show DvAt g w1.heap.size w1 [] [] [] (.slice none 0 0) (.slice none 0 0) (.slice none 0 0) w2 from
    ⟨hc2, hgl, rfl, ho2, ⟨[], ⟨rfl, .inl ⟨rfl, rfl⟩⟩, fun k hk => by simp at hk⟩, ⟨rfl, .inl ⟨rfl, rfl⟩⟩, ⟨rfl, .inl ⟨rfl, rfl⟩⟩, fun q e => by simp [Value.ownBlock] at e⟩)
  clear hx hx4 hc1 hc2 ho2
  go_wp2_with fail
  go_loopw [6, 7, 8, 9] (fun vh va vb k wr => ∃ (hs : List (List PostD)) (az bz : List Int) (m : Nat), k = .int .i64 m ∧ m + hs.length ≤ 3 ∧ (az.length = hs.length ∧ bz.length = hs.length) ∧ Hid (DvAt g w1.heap.size w1 hs az bz vh va vb wr) ∧ Hid (HSmall hs) ∧ Hid (Sm az ∧ Sm bz)) (fun _ _ _ k _ => (intOf k).toNat)
  case atStart => exact ⟨[], [], [], m0, rfl, by simpa using hm0, ⟨rfl, rfl⟩, H, hide (fun k hk => by simp at hk), hide ⟨fun x hx => by simp at hx, fun x hx => by simp at hx⟩⟩
  case round =>
    clear H
    obtain ⟨hs, az, bz, m, rfl, hm, ⟨hla, hlb⟩, H, hsm, hab⟩ := hrel
    have hal : az.length ≤ 3 := by omega
    have hbl : bz.length ≤ 3 := by omega
    replace hla := hide hla
    replace hlb := hide hlb
    rcases m with _ | m
    · have hB := H.out.hB
      go_wp2_with fail
      refine (l1Below_any g 9 wr (by omega) (by omega) H.out.cur).mono ?_
      rintro e w3 ⟨y, rfl, hy, hc3, ho3⟩
      have H3 := hide (H.out.call hc3 ho3)
      have hz3 := H3.out.only.size
      have hm3 : hs.length ≤ 3 := by omega
      clear hy hc3 ho3 H hm
      by_cases h0 : y = 0
      · subst h0
        go_wp2_with (at_builtin; refine wpList_append_lies _ rfl _ _ _ rfl w1.heap.size 3 i1 _ 1 8 Try.underlying30 hi1.out hy0 hy1 hy2 rfl (by omega) u7 az.length (az.map (Value.int .i64)) rfl (H3.out.alloc _).arow ⟨w3.heap.size, 0, none⟩ 1 1 [Value.int .i64 1] rfl rfl (World.news_of_block (cs := #[Value.int .i64 1]) (t := 3) (fr := (0, 0)) (heap_alloc_new _ _)) (by simp [Value.oneCell']) (by omega) (by have : maxLen = 9223372036854775807 := rfl; omega) (by omega) (by simp; omega) _ rfl ?_)
        intro ga ca w4 ho hg hat _
        have H4 := hide (DvAt.growA (H3.out.alloc _) ho hg (by simpa using hat))
        clear ho hg hat H3
        go_wp2_with fail
        refine bodyPost_ret (v := .tuple #[u6, .slice (some ⟨ga, 0, none⟩) (az.length + 1) ca, u8]) (by simp [results, Try.results29, go_sem]; done) rfl ?_
        exact H4.out.ends hsm.out ⟨hm3, .inr (by simp; exact hla.out), hlb.out⟩ (hab.out.1.more (by omega)) hab.out.2 hg0 hb1.out
      · have h0' : (y == 0) = false := by rw [beq_eq_false_iff_ne]; exact h0
        by_cases h1 : y = 1
        · subst h1
          by_cases hb : 0 < bz.length
          · obtain ⟨q, cb, uu, e, c3, z3, l3⟩ := H3.out.b0 hb
            subst e
            have hbi : (0 : Int) < (bz.length : Int) := by omega
            go_wp2_with fail
            refine bodyPost_ret (v := .tuple #[u6, u7, .slice (some ⟨q, 0, none⟩) bz.length cb]) (by simp [results, Try.results29, go_sem]; done) rfl ?_
            exact (H3.out.setB 99).ends hsm.out ⟨hm3, .inl hla.out, by simp; exact hlb.out⟩ hab.out.1 (hab.out.2.set 0 (by omega)) hg0 hb1.out
          · obtain ⟨D, cb, e⟩ := own_slice H3.out.brow
            subst e
            have hb0 : decide (0 < bz.length) = false := decide_eq_false hb
            go_wp2_with fail
            refine bodyPost_ret (v := .tuple #[u6, u7, .slice D bz.length cb]) (by simp [results, Try.results29, go_sem]; done) rfl ?_
            exact H3.out.ends hsm.out ⟨hm3, .inl hla.out, hlb.out⟩ hab.out.1 hab.out.2 hg0 hb1.out
        · have h1' : (y == 1) = false := by rw [beq_eq_false_iff_ne]; exact h1
          go_wp2_with fail
          refine bodyPost_ret (v := .tuple #[u6, u7, u8]) (by simp [results, Try.results29, go_sem]; done) rfl ?_
          exact H3.out.ends hsm.out ⟨hm3, .inl hla.out, hlb.out⟩ hab.out.1 hab.out.2 hg0 hb1.out
    · have hgt : (0 : Int) < ((m + 1 : Nat) : Int) := by omega
      have hB := H.out.hB
      have hzr := H.out.only.size
      go_wp2_with fail
      refine (l4hist_any g _ H.out.cur).mono ?_
      rintro e w3 ⟨A2, c2, l, rfl, hz, hss, hi, hown, hc3, ho3⟩
      have H3 := H.out.call hc3 ho3
      have hz3 := ho3.size
      obtain ⟨b, off, rfl, -⟩ := hi.2 (by omega)
      have hown3 := own_base hown (show w1.heap.size ≤ _ by omega)
      have HT : w1.heap.size ≤ w3.heap.size := by omega
      have hne : some w3.heap.size ≠ u6.ownBlock := by
        intro e
        obtain ⟨hv, h0, -⟩ := H3.hrow
        have := (own_at h0 e.symm).2
        omega
      obtain ⟨hv, h0, hp⟩ := (H3.hrow.alloc (Obj.cells #[Value.slice (some ⟨b, off, none⟩) l.length c2] 45)).alloc (Obj.cells #[Value.slice (some ⟨b, off, none⟩) l.length c2] 45)
      have H4 := hide ((H3.alloc (Obj.cells #[Value.slice (some ⟨b, off, none⟩) l.length c2] 45)).alloc (Obj.cells #[Value.slice (some ⟨b, off, none⟩) l.length c2] 45))
      have B4 := hide ((Blk.new w3 45 #[Value.slice (some ⟨b, off, none⟩) l.length c2]).alloc (Obj.cells #[Value.slice (some ⟨b, off, none⟩) l.length c2] 45))
      have O4 := hide (own_alloc (own_alloc hown3 (Obj.cells #[Value.slice (some ⟨b, off, none⟩) l.length c2] 45)) (Obj.cells #[Value.slice (some ⟨b, off, none⟩) l.length c2] 45))
      have N4 := hide (show ((w3.alloc (Obj.cells #[Value.slice (some ⟨b, off, none⟩) l.length c2] 45)).alloc (Obj.cells #[Value.slice (some ⟨b, off, none⟩) l.length c2] 45)).heap[w3.heap.size + 1]? = some (.cells #[Value.slice (some ⟨b, off, none⟩) l.length c2] 45 (0, 0)) from by have := Blk.new (w3.alloc (Obj.cells #[Value.slice (some ⟨b, off, none⟩) l.length c2] 45)) 45 #[Value.slice (some ⟨b, off, none⟩) l.length c2]; simp only [World.size_alloc] at this; exact this)
      replace h0 := hide h0
      replace hp := hide hp
      have hz5 := hide (show 1 ≤ l.length ∧ l.length ≤ 5 from ⟨by omega, by omega⟩)
      have hzc : l.length ≤ c2 := by omega
      replace hss := hide hss
      clear hi hown hc3 ho3 H3 hown3 H
      go_wp2_with (at_builtin; refine wpList_append_lies _ rfl _ _ _ rfl w1.heap.size 45 i0 _ 1 24 Try.underlying38 hi0.out hz0 hz1 hz2 rfl (by omega) u6 hs.length hv rfl h0.out ⟨w3.heap.size + 1, 0, none⟩ 1 1 [Value.slice (some ⟨b, off, none⟩) l.length c2] rfl rfl (World.news_of_block N4.out) (by simp [Value.oneCell']) (by omega) (by have : maxLen = 9223372036854775807 := rfl; omega) (by omega) (by simp; omega) _ rfl ?_)
      intro gh ch w5 hownH hgrowH _ _
      have H5 := DvAt.growH H4.out h0.out hp.out B4.out O4.out hzc HT hne hgrowH hownH
      have c5 := H5.cell
      replace H5 := H5.drew
      clear H4 B4 O4 N4 h0 hp hownH hgrowH hne
      go_wp2_with fail
      go_region_law (first
        | (go_simp; go_at_call 76; refine (l1Below_dvh (by assumption : DvH g w1.heap.size w3.heap.size b off c2 w1 l (hs ++ [l]) az bz (.slice (some ⟨gh, 0, none⟩) (hs.length + 1) ch) u7 u8 _) hz5.out hss.out).mono ?_; rintro e w6 ⟨j, za, rfl, ⟨hj, hza⟩, cj, cT, H6⟩; have hj1 : (0 : Int) ≤ (j : Int) := (by omega); have hj2 : (j : Int) < (l.length : Int) := (by omega); go_simp)
        | (refine step_append_lies _ (by rfl) _ _ _ (by rfl) w1.heap.size 3 i1 _ 1 8 Try.underlying30 hi1.out hy0 hy1 hy2 rfl (by omega) u7 az.length (az.map (Value.int .i64)) (by rfl) ((by assumption : DvH g w1.heap.size w3.heap.size b off c2 w1 l (hs ++ [l]) az bz (.slice (some ⟨gh, 0, none⟩) (hs.length + 1) ch) u7 u8 _).alloc _).dv.arow _ 1 1 _ (by rfl) ?hl (World.news_of_block (heap_alloc_new _ _)) ?h1 (by omega) ?h63 ?hby ?hb _ (by rfl) ?_
           case hl => rfl
           case h1 => simp [Value.oneCell']
           case h63 => (have : maxLen = 9223372036854775807 := rfl); omega
           case hby => omega
           case hb => have hz6z := H6.dv.only.size; simp; omega
           intro ga ca w7 hownA hgrowA hatA _
           have H7 := hide (DvH.growA ((by assumption : DvH g w1.heap.size w3.heap.size b off c2 w1 l (hs ++ [l]) az bz (.slice (some ⟨gh, 0, none⟩) (hs.length + 1) ch) u7 u8 _).alloc _) hownA hgrowA hatA))
        | fail)
      all_goals
        clear c5 H5 cj cT H6
        have c7 := H7.out.cell
        replace H7 := H7.out.drew
        go_wp2_with fail
        go_region_law (first
          | (go_simp; go_at_call 76; refine (l1Below_dvh (by assumption : DvH g w1.heap.size w3.heap.size b off c2 w1 l (hs ++ [l]) (az ++ [za]) bz (.slice (some ⟨gh, 0, none⟩) (hs.length + 1) ch) (.slice (some ⟨ga, 0, none⟩) (az.length + 1) ca) u8 _) hz5.out hss.out).mono ?_; rintro e w8 ⟨j, zb, rfl, ⟨hj, hzb⟩, cj, cT, H8⟩; have hj1 : (0 : Int) ≤ (j : Int) := (by omega); have hj2 : (j : Int) < (l.length : Int) := (by omega); go_simp)
          | (refine step_append_lies _ (by rfl) _ _ _ (by rfl) w1.heap.size 3 i1 _ 1 8 Try.underlying30 hi1.out hy0 hy1 hy2 rfl (by omega) u8 bz.length (bz.map (Value.int .i64)) (by rfl) ((by assumption : DvH g w1.heap.size w3.heap.size b off c2 w1 l (hs ++ [l]) (az ++ [za]) bz (.slice (some ⟨gh, 0, none⟩) (hs.length + 1) ch) (.slice (some ⟨ga, 0, none⟩) (az.length + 1) ca) u8 _).alloc _).dv.brow _ 1 1 _ (by rfl) ?hl (World.news_of_block (heap_alloc_new _ _)) ?h1 (by omega) ?h63 ?hby ?hb _ (by rfl) ?_
             case hl => rfl
             case h1 => simp [Value.oneCell']
             case h63 => (have : maxLen = 9223372036854775807 := rfl); omega
             case hby => omega
             case hb => have hz8z := H8.dv.only.size; simp; omega
             intro gb cb w9 hownA hgrowA hatA _
             have H9 := hide (DvH.growB ((by assumption : DvH g w1.heap.size w3.heap.size b off c2 w1 l (hs ++ [l]) (az ++ [za]) bz (.slice (some ⟨gh, 0, none⟩) (hs.length + 1) ch) (.slice (some ⟨ga, 0, none⟩) (az.length + 1) ca) u8 _).alloc _) hownA hgrowA hatA))
          | fail)
        all_goals
          clear c7 H7 cj cT H8
          go_wp2_with fail
          go_roundw
          case rel => exact ⟨hs ++ [l], az ++ [za], bz ++ [zb], m, by go_num, by simp; omega, ⟨by simp; exact hla.out, by simp; exact hlb.out⟩, hide H9.out.dv, hide (hsm.out.more hz5.out hss.out), hide ⟨hab.out.1.more (by omega), hab.out.2.more (by omega)⟩⟩
          case measure => simp [intOf]
end Go.Proofs.Ytbhfkfapdpedpaa
