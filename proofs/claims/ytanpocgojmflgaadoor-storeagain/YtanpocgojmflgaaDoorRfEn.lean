/- The document's own answer, walked: Entries. -/
import Derived.Test.YtanpocgojmflgaaDoorPk14
import Derived.Test.YtanpocgojmflgaaDoorJrE
import Derived.Deep.RegionLaw
namespace Go.Proofs.YtanpocgojmflgaaDoor
open Go.RowKit

theorem info_enR : (Tryd.prog.info? 51).map (fun i => (i.zero, i.size, i.bytes)) = some (some (.agg #[.int .i64 0, .int .i64 0, .int .i64 0, .slice none 0 0]), 4, 48) := by kernel_rfl
/-- three numbers in a block just made -/
structure L3 (w : World) (x y z : Int) (W : World) : Prop where
  nums : W.heap[w.heap.size]? = some (.cells #[.int .i64 x, .int .i64 y, .int .i64 z] 72 (0, 0))
  below : Below w.heap.size w W
  size : W.heap.size = w.heap.size + 1
theorem L3.made (w : World) : L3 w 0 0 0 (w.alloc (.cells #[.int .i64 0, .int .i64 0, .int .i64 0] 72)) := ⟨heap_alloc_new w _, (Below.refl _ w).alloc (Nat.le_refl _) _, by simp⟩
theorem L3.put0 {w W : World} {x y z : Int} (h : L3 w x y z W) (v : Int) : L3 w v y z (W.setCell ⟨w.heap.size, 0, none⟩ (.int .i64 v)) := by
  have hs := h.size
  have ht : Turns (fun k => k = w.heap.size) W (W.setCell ⟨w.heap.size, 0, none⟩ (.int .i64 v)) := Turns.setCell _ W _ _ rfl
  exact ⟨heap_setCell_same W _ 0 _ _ _ h.nums, h.below.trans (ht.below (fun k e => by omega) (by omega)), by show (W.setCell _ _).heap.size = _; simp [World.setCell, hs]⟩
theorem L3.put1 {w W : World} {x y z : Int} (h : L3 w x y z W) (v : Int) : L3 w x v z (W.setCell ⟨w.heap.size, 1, none⟩ (.int .i64 v)) := by
  have hs := h.size
  have ht : Turns (fun k => k = w.heap.size) W (W.setCell ⟨w.heap.size, 1, none⟩ (.int .i64 v)) := Turns.setCell _ W _ _ rfl
  exact ⟨heap_setCell_same W _ 1 _ _ _ h.nums, h.below.trans (ht.below (fun k e => by omega) (by omega)), by show (W.setCell _ _).heap.size = _; simp [World.setCell, hs]⟩
theorem L3.put2 {w W : World} {x y z : Int} (h : L3 w x y z W) (v : Int) : L3 w x y v (W.setCell ⟨w.heap.size, 2, none⟩ (.int .i64 v)) := by
  have hs := h.size
  have ht : Turns (fun k => k = w.heap.size) W (W.setCell ⟨w.heap.size, 2, none⟩ (.int .i64 v)) := Turns.setCell _ W _ _ rfl
  exact ⟨heap_setCell_same W _ 2 _ _ _ h.nums, h.below.trans (ht.below (fun k e => by omega) (by omega)), by show (W.setCell _ _).heap.size = _; simp [World.setCell, hs]⟩
/-- an entry's cells in a block just made, its text behind them or ahead -/
def EnAt (wr : World) (x y z : Int) (m : Nat) (bs : List UInt8) (v : Value) (wd : World) : Prop := ∃ (g : Nat) (ta : Option Addr) (tc : Nat), v = .pointer (some ⟨g, 0, none⟩) ∧ wd.heap[g]? = some (.cells #[.int .i64 x, .int .i64 y, .int .i64 z, .slice ta m tc] 51 (0, 0)) ∧ IsBS wd (fun k => wr.heap.size ≤ k) ta tc bs ∧ Below wr.heap.size wr wd
theorem blk_nil {k : Nat} (e : blkB [] none = some k) : False := by simp [blkB] at e
theorem EnAt.fst {wr w4 : World} {x y z : Int} {m : Nat} {bs : List UInt8} {bo4 : Option Addr} {bc4 : Nat} (hO : GrowB w4 (fun k => blkB [] none = some k ∨ wr.drew.heap.size ≤ k) 5 bo4 bc4 ([] ++ bs)) (hT : Turns (fun k => blkB [] none = some k) wr.drew w4) :
    EnAt wr x y z m bs (.pointer (some ⟨w4.heap.size, 0, none⟩)) (w4.alloc (.cells #[.int .i64 x, .int .i64 y, .int .i64 z, .slice bo4 m bc4] 51)) := by
  have hb : Below wr.heap.size wr w4 := (below_drew _ _).trans (hT.below (fun k e => (blk_nil e).elim) (Nat.le_refl _))
  have hA : Below w4.heap.size w4 (w4.alloc (.cells #[.int .i64 x, .int .i64 y, .int .i64 z, .slice bo4 m bc4] 51)) := (Below.refl _ w4).alloc (Nat.le_refl _) _
  rw [List.nil_append] at hO
  exact ⟨_, bo4, bc4, rfl, heap_alloc_new w4 _, (hO.isBS.mono (S' := fun k => wr.heap.size ≤ k) (fun k _ e => by
    rcases e with e | e
    · exact (blk_nil e).elim
    · exact e)).turns (Turns.of_below (S := fun _ => False) hA) (fun _ _ e => e), then_ hb hA⟩
theorem EnAt.snd {wr w4 : World} {x y z : Int} {m : Nat} {bs : List UInt8} {bo4 : Option Addr} {bc4 g : Nat} (hg : wr.heap.size = g) (hO : GrowB w4 (fun k => blkB [] none = some k ∨ (wr.alloc (.cells #[.int .i64 0, .int .i64 0, .int .i64 0, .slice none 0 0] 51)).drew.heap.size ≤ k) 5 bo4 bc4 ([] ++ bs)) (hT : Turns (fun k => blkB [] none = some k) (wr.alloc (.cells #[.int .i64 0, .int .i64 0, .int .i64 0, .slice none 0 0] 51)).drew w4) :
    EnAt wr x y z m bs (.pointer (some ⟨g, 0, none⟩)) ((((w4.setCell ⟨g, 0, none⟩ (.int .i64 x)).setCell ⟨g, 1, none⟩ (.int .i64 y)).setCell ⟨g, 2, none⟩ (.int .i64 z)).setCell ⟨g, 3, none⟩ (.slice bo4 m bc4)) := by
  subst hg
  have hA : Below wr.heap.size wr (wr.alloc (.cells #[.int .i64 0, .int .i64 0, .int .i64 0, .slice none 0 0] 51)) := (Below.refl _ wr).alloc (Nat.le_refl _) _
  have hz : (wr.alloc (.cells #[.int .i64 0, .int .i64 0, .int .i64 0, .slice none 0 0] 51)).drew.heap.size = wr.heap.size + 1 := by show (wr.alloc _).heap.size = _; simp
  have hr := hT.row (heap_alloc_new wr (.cells #[.int .i64 0, .int .i64 0, .int .i64 0, .slice none 0 0] 51)) (fun e => blk_nil e)
  obtain ⟨h1, h2⟩ := store4 hr (.int .i64 x) (.int .i64 y) (.int .i64 z) (.slice bo4 m bc4)
  have hb : Below wr.heap.size wr w4 := hA.trans ((below_drew _ _).trans ((hT.below (fun k e => (blk_nil e).elim) (Nat.le_refl _)).mono (by omega)))
  rw [List.nil_append, hz] at hO
  refine ⟨_, bo4, bc4, rfl, h1, ((hO.isBS.mono (S' := fun k => wr.heap.size + 1 ≤ k) (fun k _ e => ?_)).turns h2 (fun k e e2 => by omega)).mono (fun k _ e => by omega), hb.trans (h2.below (fun k e => by omega) hb.size)⟩
  rcases e with e | e
  · exact (blk_nil e).elim
  · exact e

set_option maxRecDepth 100000 in
set_option maxHeartbeats 4000000 in
theorem entriesR_any (b : List UInt8) (ao : Option Addr) (cap n : Nat) (w : World) (hB : IsB w ao cap b) (hn : b.length = n) (hN : n ≤ 1000000000) :
    Calls Tryd.prog 15 #[.slice ao n cap] w fun e w' => DecPost w 51 b e w' := by
  have HI : Hid (∀ W, Below w.heap.size w W → IsB W ao cap b) := fun W hW => hB.stay hW
  have hcap := hB.1
  obtain ⟨i0, hi0, hz0, hz1, hz2⟩ := info_parts info_u8
  have Hi := Hid.mk' hi0; have Hz0 := Hid.mk' hz0; have Hz1 := Hid.mk' hz1; have Hz2 := Hid.mk' hz2
  obtain ⟨j0, hj0, hy0, hy1, hy2⟩ := info_parts info_enR
  have Hj := Hid.mk' hj0; have Hy0 := Hid.mk' hy0; have Hy1 := Hid.mk' hy1; have Hy2 := Hid.mk' hy2
  clear hB hj0 hy0 hy1 hy2 hi0 hz0 hz1 hz2
  go_enter Tryd.func15, Tryd.ntmps15
  go_wp2
  go_loopw [4, 5] (fun vl va wr => ∃ (k : Nat) (ai : Option Addr) (ci : Nat) (l : List Jn.E) (m : Nat), l.length = m ∧ vl = .slice ai m ci ∧ va = .int .i64 k ∧ DcAt w 51 b k ai ci l wr) (fun _ va _ => n - (intOf va).toNat)
  case atStart => exact ⟨0, none, 0, [], 0, rfl, rfl, rfl, DcAt.start w _ b⟩
  case round =>
    obtain ⟨k, ai, ci, l, m, hm, rfl, rfl, hD⟩ := hrel
    have HD := Hid.mk' hD
    have hk := hD.le
    have hfew := hD.few
    clear hD
    generalize wr = wo at *
    have hk1 : (k : Int) ≤ n := by omega
    have hk2 : (k : Int) ≤ cap := by omega
    have HCut : Hid (∀ aj, (cap ≠ k → aj = ao.map (·.add k)) → IsB wo aj (cap - k) (b.drop k)) := fun aj haj => by
      have h1 := (HI.out wo HD.out.below).cut (ao' := aj) k b.length (by omega) (Nat.le_refl _) haj
      rwa [List.take_of_length_le (by rw [List.length_drop]; omega)] at h1
    have HR0 : Hid (∀ aj, (cap ≠ k → aj = ao.map (·.add k)) → Calls Tryd.prog 33 #[.slice aj (n - k) (cap - k)] wo fun e w' => e = .returned (.tuple #[.int .i64 (rnOut (b.drop k)).1, .int .i64 ((rnOut (b.drop k)).2 : Int)]) ∧ w' = wo) := fun aj haj => numberAt_any (b.drop k) aj (cap - k) (n - k) wo (HCut.out aj haj) (by rw [List.length_drop, hn]) (by omega)
    have HFin : Hid (∀ W, Jn.one (b.drop k) = none → Below wo.heap.size wo W → DecPost w 51 b (.returned (.tuple #[.slice ai m ci, .int .i64 (k : Int)])) W) := fun W ho hb => by
      have hX := HD.out.stop ho
      exact ⟨ai, ci, by rw [hX, hm], by rw [hX]; exact HD.out.ens.stay hb, then_ HD.out.below hb⟩
    cases hr : Jn.rn (b.drop k) with
    | none =>
      have HX := Hid.mk' (HFin.out wo (one_of_none hr) (Below.refl _ _))
      rw [rnOut_none hr] at HR0
      clear hr HCut HFin
      by_cases hck : cap = k
      · have HR2 := HR0.out ao (fun e => absurd hck e)
        rw [show n - k = 0 by omega, show cap - k = 0 by omega] at HR2
        have HR3 := Hid.mk' HR2
        clear HR2 HR0
        obtain rfl : n = k := by omega
        subst hck
        go_wp2_with (go_at_call 33; refine HR3.out.mono ?_; rintro e w3 ⟨rfl, hw⟩; rw [hw]; clear hw)
        go_ret2
        exact HX.out
      · have HR3 := Hid.mk' (HR0.out _ (fun _ => rfl))
        clear HR0
        go_wp2_with (go_at_call 33; refine HR3.out.mono ?_; rintro e w3 ⟨rfl, hw⟩; rw [hw]; clear hw)
        go_ret2
        exact HX.out
    | some p =>
      obtain ⟨x, s⟩ := p
      have hrl := Jn.rn_le hr
      rw [List.length_drop] at hrl
      have hck : ¬ cap = k := by omega
      obtain ⟨bb, oo, rfl, hcs⟩ := (HI.out wo HD.out.below).lit (by omega)
      clear hcs
      rw [rnOut_some hr] at HR0
      have HR3 : Hid (Calls Tryd.prog 33 #[.slice (some ⟨bb, oo + k, none⟩) (n - k) (cap - k)] wo fun e w' => e = .returned (.tuple #[.int .i64 x, .int .i64 (s : Int)]) ∧ w' = wo) := HR0.out _ (fun _ => by simp [Addr.add_lit])
      clear HR0 HCut
      have ts : ((s : Int) == 0) = false := by rw [beq_eq_false_iff_ne]; omega
      have hw1 : IntKind.i64.wrap ((n : Int) - k) = (n : Int) - k := wrap_id (by omega) (by omega)
      have hw2 : IntKind.i64.wrap ((n : Int) - k - s) = (n : Int) - k - s := wrap_id (by omega) (by omega)
      by_cases hx : 0 ≤ x ∧ x ≤ (n : Int) - k - s
      · have HX := Hid.mk' (one_of_some hr (by rw [List.length_drop]; omega))
        obtain ⟨hx0, hx1⟩ := hx
        obtain ⟨q, rfl⟩ : ∃ q : Nat, x = q := ⟨x.toNat, by omega⟩
        rw [Int.toNat_natCast, List.drop_drop] at HX
        clear hr
        have t1 : ¬ (q : Int) < 0 := by omega
        have t2 : ¬ (n : Int) - k - s < q := by omega
        have hwa : IntKind.i64.wrap ((k : Int) + s) = (k : Int) + s := wrap_id (by omega) (by omega)
        have hwb : IntKind.i64.wrap ((k : Int) + s + q) = (k : Int) + s + q := wrap_id (by omega) (by omega)
        have j1 : (k : Int) + s ≤ (k : Int) + s + q := by omega
        have j2 : (k : Int) + s + q ≤ cap := by omega
        have j3 : ((k : Int) + s).toNat = k + s := by omega
        have j4 : ((k : Int) + s + q).toNat = k + s + q := by omega
        have j5 : (0 : Int) ≤ (k : Int) + s := by omega
        go_upto_region 7 with (go_at_call 33; refine HR3.out.mono ?_; rintro e w3 ⟨rfl, hw⟩; rw [hw]; clear hw)
        have hinl : ((b.drop (k + s)).take q).length = q := by rw [List.length_take, List.length_drop]; omega
        have HIn : Hid (IsB wo (if cap = k + s then some ⟨bb, oo, none⟩ else some ⟨bb, oo + (k + s), none⟩) (cap - (k + s)) ((b.drop (k + s)).take q)) := by
          have h1 := (HI.out wo HD.out.below).cut (ao' := if cap = k + s then some ⟨bb, oo, none⟩ else some ⟨bb, oo + (k + s), none⟩) (k + s) (k + s + q) (by omega) (by omega) (fun e => by rw [if_neg e]; simp [Addr.add_lit])
          rwa [show k + s + q - (k + s) = q by omega] at h1
        generalize (if cap = k + s then some (⟨bb, oo, none⟩ : Addr) else some ⟨bb, oo + (k + s), none⟩) = aI at *
        generalize hcI : cap - (k + s) = cI at *
        have hqc : q ≤ cI := by omega
        generalize (b.drop (k + s)).take q = inn at *
        have HL0 := Hid.mk' (L3.made wo)
        clear hcI HI HR3 hck j1 j2 j3 j4 j5 hwa hwb t1 t2 hw1 hw2
        go_wp2
        generalize wo.alloc (.cells #[.int .i64 0, .int .i64 0, .int .i64 0] 72) = w1 at *
        go_loopw [10, 11] (fun vi vj wr => ∃ (i j : Nat) (x y z : Int), j ≤ 3 ∧ i ≤ q ∧ vi = .int .i64 i ∧ vj = .int .i64 j ∧ InAt inn j (inn.drop i) x y z ∧ L3 wo x y z wr) (fun _ vj _ => 3 - (intOf vj).toNat)
        case atStart => exact ⟨0, 0, 0, 0, 0, by omega, by omega, rfl, rfl, .zero, HL0.out⟩
        case round =>
          obtain ⟨i, j, x, y, z, hj, hiq, rfl, rfl, hA, hM⟩ := hrel
          have HA := Hid.mk' hA; have HM := Hid.mk' hM
          have hsz := hM.size
          obtain ⟨⟨d0, d1, d2⟩, e0, e1, e2⟩ := row3 hM.nums
          have hi1 : (i : Int) ≤ q := by omega
          have hi2 : (i : Int) ≤ cI := by omega
          have HCut : Hid (∀ aj W, Below wo.heap.size wo W → (cI ≠ i → aj = aI.map (·.add i)) → IsB W aj (cI - i) (inn.drop i)) := fun aj W hW haj => by
            have h1 := (HIn.out.stay hW).cut (ao' := aj) i inn.length (by omega) (Nat.le_refl _) haj
            rwa [List.take_of_length_le (by rw [List.length_drop]; omega)] at h1
          have HR0 : Hid (∀ aj, (cI ≠ i → aj = aI.map (·.add i)) → Calls Tryd.prog 33 #[.slice aj (q - i) (cI - i)] wr fun e w' => e = .returned (.tuple #[.int .i64 (rnOut (inn.drop i)).1, .int .i64 ((rnOut (inn.drop i)).2 : Int)]) ∧ w' = wr) := fun aj haj => numberAt_any (inn.drop i) aj (cI - i) (q - i) wr (HCut.out aj wr HM.out.below haj) (by rw [List.length_drop, hinl]) (by omega)
          clear hA hM
          by_cases hlt : j < 3
          · have hlt' : (j : Int) < 3 := by omega
            cases hr : Jn.rn (inn.drop i) with
            | none =>
              have HF := Hid.mk' (HFin.out wr (by rw [HX.out, HA.out.stop hlt hr]; rfl) HM.out.below)
              rw [rnOut_none hr] at HR0
              clear hr HCut HFin
              by_cases hck : cI = i
              · have HR2 := HR0.out aI (fun e => absurd hck e)
                rw [show q - i = 0 by omega, show cI - i = 0 by omega] at HR2
                have HR3 := Hid.mk' HR2
                clear HR2 HR0
                obtain rfl : q = i := by omega
                subst hck
                go_wp2_with (go_at_call 33; refine HR3.out.mono ?_; rintro e w3 ⟨rfl, hw⟩; rw [hw]; clear hw)
                go_ret2
                exact HF.out
              · have HR3 := Hid.mk' (HR0.out _ (fun _ => rfl))
                clear HR0
                go_wp2_with (go_at_call 33; refine HR3.out.mono ?_; rintro e w3 ⟨rfl, hw⟩; rw [hw]; clear hw)
                go_ret2
                exact HF.out
            | some p =>
              obtain ⟨v, sn⟩ := p
              have hrl := Jn.rn_le hr
              rw [List.length_drop] at hrl
              have hck : ¬ cI = i := by omega
              rw [rnOut_some hr] at HR0
              have HRn := Hid.mk' (HR0.out _ (fun _ => rfl))
              have hst := HA.out.step hlt hr
              rw [List.drop_drop] at hst
              have HSt := Hid.mk' hst
              clear HR0 HCut hst hr
              have ts : ((sn : Int) == 0) = false := by rw [beq_eq_false_iff_ne]; omega
              have hwi : IntKind.i64.wrap ((i : Int) + sn) = (i : Int) + sn := wrap_id (by omega) (by omega)
              rcases (show j = 0 ∨ j = 1 ∨ j = 2 by omega) with rfl | rfl | rfl
              · have HMp := Hid.mk' (HM.out.put0 v)
                go_wp2_with (go_at_call 33; refine HRn.out.mono ?_; rintro e w3 ⟨rfl, hw⟩; rw [hw]; clear hw)
                go_roundw
                case rel => exact ⟨i + sn, 1, v, y, z, by omega, by omega, by go_num, by go_num, HSt.out, HMp.out⟩
                case measure => first | (simp [intOf]; done) | (simp [intOf]; omega)
              · have HMp := Hid.mk' (HM.out.put1 v)
                go_wp2_with (go_at_call 33; refine HRn.out.mono ?_; rintro e w3 ⟨rfl, hw⟩; rw [hw]; clear hw)
                go_roundw
                case rel => exact ⟨i + sn, 2, x, v, z, by omega, by omega, by go_num, by go_num, HSt.out, HMp.out⟩
                case measure => first | (simp [intOf]; done) | (simp [intOf]; omega)
              · have HMp := Hid.mk' (HM.out.put2 v)
                go_wp2_with (go_at_call 33; refine HRn.out.mono ?_; rintro e w3 ⟨rfl, hw⟩; rw [hw]; clear hw)
                go_roundw
                case rel => exact ⟨i + sn, 3, x, y, v, by omega, by omega, by go_num, by go_num, HSt.out, HMp.out⟩
                case measure => first | (simp [intOf]; done) | (simp [intOf]; omega)
          · obtain rfl : j = 3 := by omega
            have HE := Hid.mk' HA.out.end_
            have hil : (inn.drop i).length = q - i := by rw [List.length_drop, hinl]
            clear HR0 hlt HA
            obtain ⟨tn, htn⟩ : ∃ tn, tn = q - i := ⟨_, rfl⟩
            go_upto_region 18 with fail
            go_cut [15] from 18 to 103 (fun v wd => EnAt wr x y z tn (inn.drop i) v wd)
            case first =>
              by_cases hck : cI = i
              · obtain rfl : q = i := by omega
                subst hck
                have HNil : Hid (inn.drop cI = []) := List.drop_eq_nil_of_le (by omega)
                have HSrc : Hid (∀ W, Below wr.heap.size wr W → IsB W aI 0 []) := fun W hW => by
                  have := HCut.out aI W (then_ HM.out.below hW) (fun e => absurd rfl e)
                  rwa [Nat.sub_self, HNil.out] at this
                have hqi : (0 : Nat) + 0 ≤ 140737488355328 := by omega
                have HBd : Hid (Below wr.heap.size wr wr.drew) := below_drew _ _
                have HBz : Hid (Below wr.heap.size wr (wr.alloc (.cells #[.int .i64 0, .int .i64 0, .int .i64 0, .slice none 0 0] 51)).drew) := ((Below.refl _ wr).alloc (Nat.le_refl _) _).trans (below_drew _ _)
                have HNr : Hid (∀ W w4, Below wr.heap.size wr W → Turns (fun k => blkB [] none = some k) W w4 → w4.cell? ⟨wo.heap.size, 0, none⟩ = some (.int .i64 x) ∧ w4.cell? ⟨wo.heap.size, 1, none⟩ = some (.int .i64 y) ∧ w4.cell? ⟨wo.heap.size, 2, none⟩ = some (.int .i64 z)) := fun W w4 hW hT => (row3 (hT.row ((hW.block wo.heap.size (by omega)).trans HM.out.nums) (by simp [blkB]))).1
                have HNz : Hid (∀ W w4, Below wr.heap.size wr W → Turns (fun k => blkB [] none = some k) W w4 → ∀ cs, (w4.alloc (.cells cs 51)).cell? ⟨wo.heap.size, 0, none⟩ = some (.int .i64 x) ∧ (w4.alloc (.cells cs 51)).cell? ⟨wo.heap.size, 1, none⟩ = some (.int .i64 y) ∧ (w4.alloc (.cells cs 51)).cell? ⟨wo.heap.size, 2, none⟩ = some (.int .i64 z)) := fun W w4 hW hT cs => by
                  have h1 := hT.row ((hW.block wo.heap.size (by omega)).trans HM.out.nums) (by simp [blkB])
                  have h2 : wo.heap.size < w4.heap.size := (Array.getElem?_eq_some_iff.1 h1).1
                  exact (row3 ((Below.heap_alloc _ _ _ h2).trans h1)).1
                have HZr : Hid (∀ w4, Turns (fun k => blkB [] none = some k) (wr.alloc (.cells #[.int .i64 0, .int .i64 0, .int .i64 0, .slice none 0 0] 51)).drew w4 → (w4.cell? ⟨wo.heap.size + 1, 0, none⟩ = some (.int .i64 0) ∧ w4.cell? ⟨wo.heap.size + 1, 1, none⟩ = some (.int .i64 0) ∧ w4.cell? ⟨wo.heap.size + 1, 2, none⟩ = some (.int .i64 0) ∧ w4.cell? ⟨wo.heap.size + 1, 3, none⟩ = some (.slice none 0 0)) ∧ (w4.frozen? ⟨wo.heap.size + 1, 0, none⟩ = false ∧ w4.frozen? ⟨wo.heap.size + 1, 1, none⟩ = false ∧ w4.frozen? ⟨wo.heap.size + 1, 2, none⟩ = false ∧ w4.frozen? ⟨wo.heap.size + 1, 3, none⟩ = false)) := fun w4 hT => by
                  have h1 := heap_alloc_new wr (.cells #[.int .i64 0, .int .i64 0, .int .i64 0, .slice none 0 0] 51)
                  rw [hsz] at h1
                  exact row4 (hT.row h1 (by simp [blkB]))
                go_region_held_law (fun w' => w'.cell? ⟨wo.heap.size, 0, none⟩ = some (.int .i64 x) ∧ w'.cell? ⟨wo.heap.size, 1, none⟩ = some (.int .i64 y) ∧ w'.cell? ⟨wo.heap.size, 2, none⟩ = some (.int .i64 z)) (first | go_keep | exact HKw.out | exact HKz.out _) (first
                  | (refine step_append_grown (S := fun _ => False) (by rfl) _ _ _ (by rfl) 5 i0 Tryd.underlying43 Hi.out Hz0.out Hz1.out Hz2.out (l := []) (by rfl) (by rfl) (GrowB.nil _ _ _) rfl (HSrc.out _ HBd.out) rfl hqi ?_; intro bo4 bc4 w4 hO4 hT4; have HKw := Hid.mk' (HNr.out _ w4 HBd.out hT4); have HKz := Hid.mk' (HNz.out _ w4 HBd.out hT4); have HO4 := Hid.mk' hO4; have HT4 := Hid.mk' hT4; clear hO4 hT4; (try simp only [Act.put, List.getElem_toArray, List.getElem_cons_succ, List.getElem_cons_zero, List.setIfInBounds_toArray, List.set_cons_zero, List.set_cons_succ]))
                  | (refine step_append_grown (S := fun _ => False) (by rfl) _ _ _ (by rfl) 5 i0 Tryd.underlying43 Hi.out Hz0.out Hz1.out Hz2.out (l := []) (by rfl) (by rfl) (GrowB.nil _ _ _) rfl (HSrc.out _ HBz.out) rfl hqi ?_; intro bo4 bc4 w4 hO4 hT4; have HKw := Hid.mk' (HNr.out _ w4 HBz.out hT4); obtain ⟨⟨k0, k1, k2, k3⟩, l0, l1, l2, l3⟩ := HZr.out w4 hT4; have HO4 := Hid.mk' hO4; have HT4 := Hid.mk' hT4; clear hO4 hT4; (try simp only [Act.put, List.getElem_toArray, List.getElem_cons_succ, List.getElem_cons_zero, List.setIfInBounds_toArray, List.set_cons_zero, List.set_cons_succ])))
                all_goals
                  go_wp2
                  go_meet
                  rw [htn, HNil.out, Nat.sub_self]
                  first | exact EnAt.fst HO4.out HT4.out | exact EnAt.snd hsz HO4.out HT4.out
              · have HSrc : Hid (∀ W, Below wr.heap.size wr W → IsB W (aI.map (·.add i)) (cI - i) (inn.drop i)) := fun W hW => HCut.out _ W (then_ HM.out.below hW) (fun _ => rfl)
                have hqi : (0 : Nat) + (q - i) ≤ 140737488355328 := by omega
                have HBd : Hid (Below wr.heap.size wr wr.drew) := below_drew _ _
                have HBz : Hid (Below wr.heap.size wr (wr.alloc (.cells #[.int .i64 0, .int .i64 0, .int .i64 0, .slice none 0 0] 51)).drew) := ((Below.refl _ wr).alloc (Nat.le_refl _) _).trans (below_drew _ _)
                have HNr : Hid (∀ W w4, Below wr.heap.size wr W → Turns (fun k => blkB [] none = some k) W w4 → w4.cell? ⟨wo.heap.size, 0, none⟩ = some (.int .i64 x) ∧ w4.cell? ⟨wo.heap.size, 1, none⟩ = some (.int .i64 y) ∧ w4.cell? ⟨wo.heap.size, 2, none⟩ = some (.int .i64 z)) := fun W w4 hW hT => (row3 (hT.row ((hW.block wo.heap.size (by omega)).trans HM.out.nums) (by simp [blkB]))).1
                have HNz : Hid (∀ W w4, Below wr.heap.size wr W → Turns (fun k => blkB [] none = some k) W w4 → ∀ cs, (w4.alloc (.cells cs 51)).cell? ⟨wo.heap.size, 0, none⟩ = some (.int .i64 x) ∧ (w4.alloc (.cells cs 51)).cell? ⟨wo.heap.size, 1, none⟩ = some (.int .i64 y) ∧ (w4.alloc (.cells cs 51)).cell? ⟨wo.heap.size, 2, none⟩ = some (.int .i64 z)) := fun W w4 hW hT cs => by
                  have h1 := hT.row ((hW.block wo.heap.size (by omega)).trans HM.out.nums) (by simp [blkB])
                  have h2 : wo.heap.size < w4.heap.size := (Array.getElem?_eq_some_iff.1 h1).1
                  exact (row3 ((Below.heap_alloc _ _ _ h2).trans h1)).1
                have HZr : Hid (∀ w4, Turns (fun k => blkB [] none = some k) (wr.alloc (.cells #[.int .i64 0, .int .i64 0, .int .i64 0, .slice none 0 0] 51)).drew w4 → (w4.cell? ⟨wo.heap.size + 1, 0, none⟩ = some (.int .i64 0) ∧ w4.cell? ⟨wo.heap.size + 1, 1, none⟩ = some (.int .i64 0) ∧ w4.cell? ⟨wo.heap.size + 1, 2, none⟩ = some (.int .i64 0) ∧ w4.cell? ⟨wo.heap.size + 1, 3, none⟩ = some (.slice none 0 0)) ∧ (w4.frozen? ⟨wo.heap.size + 1, 0, none⟩ = false ∧ w4.frozen? ⟨wo.heap.size + 1, 1, none⟩ = false ∧ w4.frozen? ⟨wo.heap.size + 1, 2, none⟩ = false ∧ w4.frozen? ⟨wo.heap.size + 1, 3, none⟩ = false)) := fun w4 hT => by
                  have h1 := heap_alloc_new wr (.cells #[.int .i64 0, .int .i64 0, .int .i64 0, .slice none 0 0] 51)
                  rw [hsz] at h1
                  exact row4 (hT.row h1 (by simp [blkB]))
                go_region_held_law (fun w' => w'.cell? ⟨wo.heap.size, 0, none⟩ = some (.int .i64 x) ∧ w'.cell? ⟨wo.heap.size, 1, none⟩ = some (.int .i64 y) ∧ w'.cell? ⟨wo.heap.size, 2, none⟩ = some (.int .i64 z)) (first | go_keep | exact HKw.out | exact HKz.out _) (first
                  | (refine step_append_grown (S := fun _ => False) (by rfl) _ _ _ (by rfl) 5 i0 Tryd.underlying43 Hi.out Hz0.out Hz1.out Hz2.out (l := []) (by rfl) (by rfl) (GrowB.nil _ _ _) rfl (HSrc.out _ HBd.out) hil hqi ?_; intro bo4 bc4 w4 hO4 hT4; have HKw := Hid.mk' (HNr.out _ w4 HBd.out hT4); have HKz := Hid.mk' (HNz.out _ w4 HBd.out hT4); have HO4 := Hid.mk' hO4; have HT4 := Hid.mk' hT4; clear hO4 hT4; (try simp only [Act.put, List.getElem_toArray, List.getElem_cons_succ, List.getElem_cons_zero, List.setIfInBounds_toArray, List.set_cons_zero, List.set_cons_succ]))
                  | (refine step_append_grown (S := fun _ => False) (by rfl) _ _ _ (by rfl) 5 i0 Tryd.underlying43 Hi.out Hz0.out Hz1.out Hz2.out (l := []) (by rfl) (by rfl) (GrowB.nil _ _ _) rfl (HSrc.out _ HBz.out) hil hqi ?_; intro bo4 bc4 w4 hO4 hT4; have HKw := Hid.mk' (HNr.out _ w4 HBz.out hT4); obtain ⟨⟨k0, k1, k2, k3⟩, l0, l1, l2, l3⟩ := HZr.out w4 hT4; have HO4 := Hid.mk' hO4; have HT4 := Hid.mk' hT4; clear hO4 hT4; (try simp only [Act.put, List.getElem_toArray, List.getElem_cons_succ, List.getElem_cons_zero, List.setIfInBounds_toArray, List.set_cons_zero, List.set_cons_succ])))
                all_goals
                  go_wp2
                  go_meet
                  rw [htn]
                  first | exact EnAt.fst HO4.out HT4.out | exact EnAt.snd hsz HO4.out HT4.out
            case rest =>
              obtain ⟨g, ta, tc, rfl, hrow, hTx, hBc⟩ := hcut
              have hil' : (inn.drop i).length = tn := by rw [hil, htn]
              have HEB := Hid.mk' (entryBytes_any ⟨x, y, z, inn.drop i⟩ ta tn tc wc hTx.is hil')
              obtain ⟨⟨k0, k1, k2, k3⟩, _⟩ := row4 hrow
              have HRow := Hid.mk' hrow; have HTx := Hid.mk' hTx; have HBc : Hid (Below wo.heap.size wo wc) := then_ HM.out.below hBc
              have hzr := hBc.size
              dsimp only at HEB
              have HIl := Hid.mk' hil'
              clear hrow hTx hBc HCut d0 d1 d2 e0 e1 e2 hi1 hi2 hil hil' htn
              cases hf : Jn.fits ⟨x, y, z, inn.drop i⟩ with
              | false =>
                have HF := Hid.mk' (fun W hW => HFin.out W (by rw [HX.out, HE.out, if_neg (by simp [hf])]; rfl) hW)
                have HEn : Hid (encOut ⟨x, y, z, inn.drop i⟩ = ([], 1)) := by unfold Hid encOut; rw [if_neg (by simp [hf])]
                have HEB2 : Hid (Calls Tryd.prog 34 #[.agg #[.int .i64 x, .int .i64 y, .int .i64 z, .slice ta tn tc]] wc fun e w' => ∃ ao n cap, e = .returned (.tuple #[.slice ao n cap, .int .i64 1]) ∧ Below wc.heap.size wc w') := HEB.out.mono fun e w' h => by
                  obtain ⟨ao, cap, h1, _, h3⟩ := h
                  rw [HEn.out] at h1
                  exact ⟨ao, _, cap, h1, h3⟩
                clear hf HE HFin HEB HEn
                go_wp2_with (go_at_call 34; refine HEB2.out.mono ?_; rintro e w5 ⟨ao5, n5, ca5, rfl, hb5⟩; have HB5 := Hid.mk' hb5; clear hb5)
                go_ret2
                exact HF.out _ (then_ HBc.out HB5.out)
              | true =>
                have HOn : Hid (Jn.one (b.drop k) = some (⟨x, y, z, inn.drop i⟩, s + q)) := by unfold Hid; rw [HX.out, HE.out, if_pos hf]; rfl
                have HEn : Hid (encOut ⟨x, y, z, inn.drop i⟩ = (Jn.enc ⟨x, y, z, inn.drop i⟩, 0)) := by unfold Hid encOut; rw [if_pos hf]
                have HEB2 : Hid (Calls Tryd.prog 34 #[.agg #[.int .i64 x, .int .i64 y, .int .i64 z, .slice ta tn tc]] wc fun e w' => ∃ ao n cap, e = .returned (.tuple #[.slice ao n cap, .int .i64 0]) ∧ Below wc.heap.size wc w') := HEB.out.mono fun e w' h => by
                  obtain ⟨ao, cap, h1, _, h3⟩ := h
                  rw [HEn.out] at h1
                  exact ⟨ao, _, cap, h1, h3⟩
                have HM2 := Hid.mk' (fun W' ao' ca' hE hb => HD.out.more (W' := W') (ao' := ao') (ca' := ca') HOn.out hE hb)
                clear hf HE HFin HEB HEn
                go_upto_region 22 with (go_at_call 34; refine HEB2.out.mono ?_; rintro e w5 ⟨ao5, n5, ca5, rfl, hb5⟩; have HB5 := Hid.mk' hb5; clear hb5)
                have hbr := HB5.out.block g (Array.getElem?_eq_some_iff.1 HRow.out).1
                obtain ⟨⟨m0, m1, m2, m3⟩, _⟩ := row4 (hbr.trans HRow.out)
                have hb5o := then_ HBc.out HB5.out
                obtain ⟨xs, hO, hP⟩ := ((HD.out.ens.mono (S' := fun k => w.heap.size ≤ k ∧ k < wo.heap.size) (fun j hj e => ⟨e, hj⟩)).stay hb5o).push (.cells #[.int .i64 x, .int .i64 y, .int .i64 z, .slice ta tn tc] 51)
                have HNw : Hid (IsV (w5.alloc (.cells #[.int .i64 x, .int .i64 y, .int .i64 z, .slice ta tn tc] 51)) (some ⟨w5.heap.size, 0, none⟩) 1 1 (enC ⟨x, y, z, inn.drop i⟩ ⟨ta, tc⟩)) := by
                  have := IsV.made w5 #[.int .i64 x, .int .i64 y, .int .i64 z, .slice ta tn tc] 1 51 (0, 0)
                  rw [← HIl.out] at this ⊢; exact this
                have HT5 : Hid (IsBS w5 (fun k => wo.heap.size ≤ k) ta tc (inn.drop i)) := (HTx.out.turns (Turns.of_below (S := fun _ => False) HB5.out) (fun _ _ e => e)).mono (fun j _ e => by omega)
                rw [hm] at hO hP
                have HO := Hid.mk' hO; have HP := Hid.mk' hP; have HB5o := Hid.mk' hb5o
                have HN : Hid (m + 1 ≤ 9223372036854775807 ∧ (m + 1) * 48 ≤ 140737488355328) := ⟨by omega, by omega⟩
                have hz := HD.out.below.size
                have hz5 := hb5o.size
                have hwk : IntKind.i64.wrap ((s : Int) + q) = (s : Int) + q := wrap_id (by omega) (by omega)
                have hwk2 : IntKind.i64.wrap ((k : Int) + ((s : Int) + q)) = (k : Int) + ((s : Int) + q) := wrap_id (by omega) (by omega)
                clear hO hP hbr hb5o
                go_wp2_with (at_builtin; refine wpList_append_v rfl (.tmp 95) (.tmp 97) 47 rfl 0 51 j0 (.agg #[.int .i64 0, .int .i64 0, .int .i64 0, .slice none 0 0]) 4 48 Tryd.underlying47 Hj.out Hy0.out Hy1.out Hy2.out rfl (by decide) rfl HO.out rfl HNw.out rfl (enC_one _ _) HN.out.1 HN.out.2 (Nat.zero_le _) ?_; intro ao6 cap6 w6 hO6 hG6 hat6; obtain ⟨hU6, hT6⟩ := HP.out ao6 cap6 w6 ⟨x, y, z, inn.drop i⟩ ⟨ta, tc⟩ (fun j => wo.heap.size ≤ j) HT5.out (fun j e h => by omega) hO6 hG6 hat6; have HU6 := Hid.mk' hU6; have HT6 := Hid.mk' hT6; clear hO6 hG6 hat6 hU6 hT6)
                go_roundw
                case rel =>
                  refine ⟨k + (s + q), ao6, cap6, l ++ [⟨x, y, z, inn.drop i⟩], m + 1, by rw [List.length_append, hm]; rfl, rfl, by go_num, HM2.out w6 ao6 cap6 (HU6.out.mono (fun j _ e => ?_)) ((then_ HD.out.below HB5o.out).trans (HT6.out.below (fun j e => e.1) (by omega)))⟩
                  rcases e with e | e | e
                  · exact e.1
                  · omega
                  · omega
                case measure => simp [intOf]; omega
      · have HX := Hid.mk' (HFin.out wo (one_of_far hr (by rw [List.length_drop]; omega)) (Below.refl _ _))
        clear hr HFin
        by_cases hx0 : x < 0
        · clear hx
          go_wp2_with (go_at_call 33; refine HR3.out.mono ?_; rintro e w3 ⟨rfl, hw⟩; rw [hw]; clear hw)
          go_ret2
          exact HX.out
        · have t2 : (n : Int) - k - s < x := by omega
          clear hx
          go_wp2_with (go_at_call 33; refine HR3.out.mono ?_; rintro e w3 ⟨rfl, hw⟩; rw [hw]; clear hw)
          go_ret2
          exact HX.out
end Go.Proofs.YtanpocgojmflgaaDoor
