/- Package params, walked: Text. -/
import Derived.Test.YtjpenioloeplgadDoorPk16
import Derived.Test.YtjpenioloeplgadDoorPk14
import Derived.Test.YtjpenioloeplgadDoorRfMTxA
namespace Go.Proofs.YtjpenioloeplgadDoor
open Go.RowKit

theorem txt_chk (acc : List UInt8) (L : List Pm.Par) (k : Nat) (hk : k < L.length) : Pm.txt acc (L.take k) (L.drop k) =
    if Pm.chk L[k].1 L[k].2 (L.take k) = 0 then Pm.txt (acc ++ Pm.one L[k]) (L.take (k + 1)) (L.drop (k + 1)) else .inl (Pm.chk L[k].1 L[k].2 (L.take k)) := by
  rw [Pm.txt_at acc L k hk]
  unfold Pm.chk
  by_cases h1 : Ch.isToken L[k].1 = false ∨ Ch.lower L[k].1 ≠ L[k].1
  · rw [if_pos h1, if_pos h1, if_neg (by decide)]
  · rw [if_neg h1, if_neg h1]
    by_cases h2 : ((L.take k).any fun q => q.1 == L[k].1) = true
    · rw [if_pos h2, if_pos h2, if_neg (by decide)]
    · rw [if_neg h2, if_neg h2]
      by_cases h3 : Ch.isVisible L[k].2 = false
      · rw [if_pos h3, if_pos h3, if_neg (by decide)]
      · rw [if_neg h3, if_neg h3, if_pos rfl]
theorem one_val (p : Pm.Par) : Pm.one p = [59, 32] ++ p.1 ++ [61] ++ Pm.valT p.2 := rfl
theorem BoxM.turns {S : Nat → Prop} {w wr w' : World} {wd : ByteArray} {ao : Option Addr} {n cap : Nat} (h : BoxM w wd ao n cap wr) (ht : Turns S wr w') (hS : ∀ k, S k → w.heap.size + 1 ≤ k) : BoxM w wd ao n cap w' := by
  have hs := h.size
  exact ⟨ht.row h.box (fun e => by have := hS _ e; omega), h.below.trans (ht.below (fun k e => by have := hS k e; omega) (by omega))⟩
theorem Buf.mono {w : World} {base base' g cap : Nat} {l : List UInt8} (h : Buf w base g cap l) (hb : base' ≤ base) : Buf w base' g cap l := ⟨Nat.le_trans hb h.base_, h.lt, h.le, h.max, h.holds, h.there⟩
theorem IsV.few {w : World} {ao : Option Addr} {cap n k : Nat} {l : List (ByteArray × ByteArray)} (h : IsV w ao cap n (pairV l)) (hk : k ≤ n) : IsV w ao cap k (pairV (l.take k)) := by
  refine ⟨Nat.le_trans hk h.1, h.2.1, fun j u hj => h.2.2 j u ?_⟩
  have e : pairV l = pairV (l.take k) ++ pairV (l.drop k) := by rw [← pairV_append, List.take_append_drop]
  rw [e, List.getElem?_append_left (List.getElem?_eq_some_iff.1 hj).1]
  exact hj
theorem parL_take (l : List (ByteArray × ByteArray)) (k : Nat) : parL (l.take k) = (parL l).take k := by simp [parL, List.map_take]
theorem parL_at (l : List (ByteArray × ByteArray)) (k : Nat) (h : k < l.length) : (parL l)[k]'(by rw [parL_length]; exact h) = (l[k].1.data.toList, l[k].2.data.toList) := by simp [parL]

set_option maxRecDepth 100000 in
set_option maxHeartbeats 3200000 in
theorem textP_any (wd : ByteArray) (l : List (ByteArray × ByteArray)) (ao : Option Addr) (cap n : Nat) (w : World) (hl : IsV w ao cap n (pairV l)) (hn : l.length = n) (hN : n ≤ 1000000) (hwz : wd.size ≤ 2000) (hpz : ∀ p ∈ l, p.1.size ≤ 2000 ∧ p.2.size ≤ 9000) :
    Calls Tryd.prog 21 #[.agg #[.string wd, .slice ao n cap]] w fun e w' => MTxt (Pm.text wd.data.toList (parL l)) e ∧ Below w.heap.size w w' := by
  subst hn
  have HIs := Hid.mk' hl
  have HZ := Hid.mk' hpz
  have hcap := hl.1
  have HB0 := Hid.mk' (BoxM.start w wd ao l.length cap)
  have HW := Hid.mk' (fun W => isWord_any wd W hwz)
  have HS := Hid.mk' (fun W => isSmall_any wd W (by unfold maxLen; omega))
  have hT : Pm.text wd.data.toList (parL l) = if Pm.wordOk wd.data.toList = false then .inl 5 else if 8 < (parL l).length then .inl 8 else Pm.txt wd.data.toList [] (parL l) := rfl
  rw [Pm.wordOk_two, parL_length] at hT
  have HT := Hid.mk' hT
  clear hl hpz hT
  have w0 := HB0.out.cells.1
  cases hw2 : Pm.wordTwo wd.data.toList
  · rw [hw2] at HW HT
    have HR : Hid (Pm.text wd.data.toList (parL l) = .inl 5) := by have := HT.out; rw [Bool.and_false, if_pos rfl] at this; exact this
    clear HT hw2
    go_enter Tryd.func21, Tryd.ntmps21
    go_wp2_with fail
    refine (HW.out _).mono ?_
    rintro e w1 ⟨rfl, q, hw⟩
    have HB1 : Hid (BoxM w wd ao l.length cap w1) := by rw [hw]; exact HB0.out.drewN q
    clear hw
    go_wp2
    go_ret2
    exact ⟨MTxt.bad HR.out, HB1.out.below⟩
  rw [hw2] at HW HT
  by_cases hlo : Ch.lower wd.data.toList = wd.data.toList
  rotate_left
  · rw [decide_eq_false hlo] at HS HT
    have HR : Hid (Pm.text wd.data.toList (parL l) = .inl 5) := by have := HT.out; rw [Bool.false_and, if_pos rfl] at this; exact this
    clear HT hw2 hlo
    go_enter Tryd.func21, Tryd.ntmps21
    go_wp2_with fail
    refine (HW.out _).mono ?_
    rintro e w1 ⟨rfl, q, hw⟩
    have HB1 : Hid (BoxM w wd ao l.length cap w1) := by rw [hw]; exact HB0.out.drewN q
    clear hw
    have c0 := HB1.out.cells.1
    go_wp2_with fail
    refine (HS.out _).mono ?_
    rintro e w2 ⟨rfl, b2⟩
    have HB2 := Hid.mk' (HB1.out.keep b2)
    clear b2
    go_wp2
    go_ret2
    exact ⟨MTxt.bad HR.out, HB2.out.below⟩
  rw [decide_eq_true hlo] at HS HT
  have hT := HT.out
  rw [if_neg (by simp)] at hT
  clear hw2 hlo HT
  go_enter Tryd.func21, Tryd.ntmps21
  go_wp2_with fail
  refine (HW.out _).mono ?_
  rintro e w1 ⟨rfl, q, hw⟩
  have HB1 : Hid (BoxM w wd ao l.length cap w1) := by rw [hw]; exact HB0.out.drewN q
  clear hw
  have c0 := HB1.out.cells.1
  go_wp2_with fail
  refine (HS.out _).mono ?_
  rintro e w2 ⟨rfl, b2⟩
  have HB2 := Hid.mk' (HB1.out.keep b2)
  clear b2 c0 HB1 HB0 w0 HW HS
  obtain ⟨c0, c1⟩ := HB2.out.cells
  by_cases h8 : 8 < l.length
  · rw [if_pos h8] at hT
    have HR := Hid.mk' hT
    have t8 : decide ((l.length : Int) > 8) = true := by rw [decide_eq_true_eq]; omega
    clear hT
    go_wp2
    go_ret2
    exact ⟨MTxt.bad HR.out, HB2.out.below⟩
  rw [if_neg h8] at hT
  have HT := Hid.mk' hT
  clear hT
  have t8 : decide ((l.length : Int) > 8) = false := by rw [decide_eq_false_iff_not]; omega
  obtain ⟨cap1, w3, hconv, b3, hbuf⟩ := buf_of (P := Tryd.prog) w2 wd 9 25 5 (by unfold maxLen; omega) Tryd.underlying9 Tryd.underlying25 Tryd.underlying5
  have HB3 := Hid.mk' (HB2.out.keep b3)
  have HU3 := Hid.mk' (hbuf.mono (base' := w.heap.size + 1) HB2.out.size)
  obtain ⟨i0, hi0, hz0, hz1, hz2⟩ := info_parts info_u8
  have Hi := Hid.mk' hi0; have Hz0 := Hid.mk' hz0; have Hz1 := Hid.mk' hz1; have Hz2 := Hid.mk' hz2
  clear hi0 hz0 hz1 hz2 b3 hbuf
  have c3 := HB3.out.cells.2
  go_wp2
  go_loopw [4, 30] (fun b t wr => ∃ (k g cap' m : Nat) (acc : List UInt8), k ≤ l.length ∧ t = .int .i64 k ∧ b = .slice (some ⟨g, 0, none⟩) m cap' ∧ m = acc.length ∧ m ≤ 9000 + k * 30000 ∧ BoxM w wd ao l.length cap wr ∧ Buf wr (w.heap.size + 1) g cap' acc ∧ Pm.text wd.data.toList (parL l) = Pm.txt acc ((parL l).take k) ((parL l).drop k)) (fun _ t _ => l.length - (intOf t).toNat)
  case atStart => exact ⟨0, w2.heap.size, cap1, wd.size, wd.data.toList, Nat.zero_le _, rfl, rfl, (Ch.len_list wd).symm, by omega, HB3.out, HU3.out, HT.out⟩
  case round =>
    clear HB3 HU3 HB2 c0 c1 c3 hconv HT
    obtain ⟨k, g, cap2, m, acc, hk, rfl, rfl, hm, hmz, hB, hU, hX⟩ := hrel
    have HB := Hid.mk' hB
    have HU := Hid.mk' hU
    have HX := Hid.mk' hX
    have HM := Hid.mk' hm.symm
    clear hB hU hX hm
    by_cases hlt : k < l.length
    · obtain ⟨bb, oo, rfl, hcs⟩ := (HIs.out.stay HB.out.below).lit (by rw [pairV_length]; omega)
      have hc0 := hcs _ _ (pairV_at l k hlt).1
      have hc1 : wr.cell? ⟨bb, oo + k * 2 + 1, none⟩ = some (.string l[k].2) := by
        have := hcs _ _ (pairV_at l k hlt).2
        rwa [← Nat.add_assoc] at this
      clear hcs
      have hlt' : (k : Int) < l.length := by omega
      have hz := HZ.out l[k] (List.getElem_mem hlt)
      have hX := HX.out
      rw [txt_chk acc (parL l) k (by rw [parL_length]; exact hlt), parL_at l k hlt, ← parL_take] at hX
      have hI0 := (HIs.out.stay HB.out.below).few (k := k) (by omega)
      have hBp : Below wr.heap.size wr (wr.alloc (.cells #[.string l[k].1, .string l[k].2] 38)) := (Below.refl _ _).alloc (Nat.le_refl _) _
      have HPb : Hid ((wr.alloc (.cells #[.string l[k].1, .string l[k].2] 38)).heap[wr.heap.size]? = some (.cells #[.string l[k].1, .string l[k].2] 38 (0, 0))) := heap_alloc_new wr _
      have HI := Hid.mk' (hI0.stay hBp)
      have HBa := Hid.mk' (HB.out.keep hBp)
      have HUa := Hid.mk' (HU.out.keep hBp)
      have hgl := HU.out.lt
      have HCk := Hid.mk' (fun W (hW : IsV W (some ⟨bb, oo, none⟩) cap k (pairV (l.take k))) => check_any l[k].1 l[k].2 (l.take k) (some ⟨bb, oo, none⟩) cap k W hW (by rw [List.length_take]; omega) (by omega) hz.1 hz.2)
      have hck : k ≤ cap := by omega
      have hck' : (k : Int) ≤ cap := by omega
      clear hI0 hBp HX
      generalize hch : Pm.chk l[k].1.data.toList l[k].2.data.toList (parL (l.take k)) = c at *
      have hO := one_val (l[k].1.data.toList, l[k].2.data.toList)
      simp only [] at hO hX
      clear hch
      generalize l[k] = p at *
      have p0 : (wr.alloc (.cells #[.string p.1, .string p.2] 38)).cell? ⟨wr.heap.size, 0, none⟩ = some (.string p.1) := cell_of_row _ _ 0 _ _ _ HPb.out
      have p1 : (wr.alloc (.cells #[.string p.1, .string p.2] 38)).cell? ⟨wr.heap.size, 1, none⟩ = some (.string p.2) := cell_of_row _ _ 1 _ _ _ HPb.out
      have m1 := HBa.out.cells.2
      have HX := Hid.mk' hX
      have HO := Hid.mk' hO
      clear hX hO
      go_wp2
      go_region_held3 (fun w' => w'.cell? ⟨wr.heap.size, 0, none⟩ = some (.string p.1) ∧ w'.cell? ⟨wr.heap.size, 1, none⟩ = some (.string p.2) ∧ w'.cell? ⟨w.heap.size, 1, none⟩ = some (.slice (some ⟨bb, oo, none⟩) l.length cap)) (go_keep) (first | (go_at_call 39; refine (HCk.out _ (HI.out.stay (below_drew _ _))).mono ?_; rintro e w5 ⟨rfl, hB5⟩; have hb5 := then_ (below_drew _ _) hB5; have HB5 := Hid.mk' (HBa.out.keep hb5); have HU5 := Hid.mk' (HUa.out.keep hb5); have HP5 := Hid.mk' ((hb5.block _ (Array.getElem?_eq_some_iff.1 HPb.out).1).trans HPb.out); have q0 : w5.cell? ⟨wr.heap.size, 0, none⟩ = some (.string p.1) := cell_of_row _ _ 0 _ _ _ HP5.out; have q1 : w5.cell? ⟨wr.heap.size, 1, none⟩ = some (.string p.2) := cell_of_row _ _ 1 _ _ _ HP5.out; have n1 := HB5.out.cells.2; clear hB5 hb5))
      all_goals
        clear p0 p1 m1 HBa HUa HI HPb hc0 hc1 HCk
        by_cases hcz : c = 0
        · have hX := HX.out
          rw [if_pos hcz] at hX
          subst hcz
          have HX2 := Hid.mk' hX
          clear hX HX
          have hxs : (⟨#[59, 32]⟩ ++ p.1 ++ ⟨#[61]⟩ : ByteArray).size = p.1.size + 3 := by
            rw [ByteArray.size_append, ByteArray.size_append]; show 2 + p.1.size + 1 = p.1.size + 3; omega
          have HXs := Hid.mk' hxs
          have HXd : Hid ((⟨#[59, 32]⟩ ++ p.1 ++ ⟨#[61]⟩ : ByteArray).data.toList = [59, 32] ++ p.1.data.toList ++ [61]) := by
            unfold Hid; rw [Ch.data_append, Ch.data_append]
          have hvl : (Pm.valT p.2.data.toList).length ≤ 2 * p.2.size + 2 := by
            have := Pm.esc_length p.2.data.toList
            rw [Ch.len_list] at this
            unfold Pm.valT
            split
            · rw [Ch.len_list]; omega
            · simp; omega
          clear hxs
          go_wp2_with (at_builtin; refine wpList_append_buf rfl (.tmp 44) (.tmp 48) 25 9 rfl 5 i0 Tryd.underlying25 Hi.out Hz0.out Hz1.out Hz2.out rfl HU5.out HM.out _ _ rfl (src_text Tryd.underlying9 _ _) (by rw [HXs.out]; omega) ?_; intro g6 cap6 w6 hU6 hT6; have HU6 := Hid.mk' hU6; have HB6 := Hid.mk' (HB5.out.turns hT6 (fun k e => by rw [e]; exact HU5.out.base_)); have HP6 := Hid.mk' (hT6.row HP5.out (by omega)); have r1 : w6.cell? ⟨wr.heap.size, 1, none⟩ = some (.string p.2) := cell_of_row _ _ 1 _ _ _ HP6.out; clear hU6 hT6)
          have hlen : (acc ++ (⟨#[59, 32]⟩ ++ p.1 ++ ⟨#[61]⟩ : ByteArray).data.toList).length = m + (2 + p.1.size + 1) := by rw [List.length_append, HM.out, Ch.len_list, HXs.out]; omega
          refine (appendValue_any p.2 (w.heap.size + 1) g6 cap6 _ _ w6 HU6.out hlen (by omega) hz.2).mono ?_
          rintro e w7 ⟨g7, cap7, rfl, hU7, hT7⟩
          have HU7 := Hid.mk' hU7
          have HB7 := Hid.mk' (HB6.out.turns hT7 (fun k e => e))
          have HLn := Hid.mk' hlen
          clear hU7 hT7 hlen
          go_wp2
          go_roundw
          case rel =>
            have e : acc ++ (⟨#[59, 32]⟩ ++ p.1 ++ ⟨#[61]⟩ : ByteArray).data.toList ++ Pm.valT p.2.data.toList = acc ++ Pm.one (p.1.data.toList, p.2.data.toList) := by
              rw [HO.out, HXd.out]; simp
            refine ⟨k + 1, g7, cap7, _, acc ++ Pm.one (p.1.data.toList, p.2.data.toList), by omega, by go_num, rfl, by have hm := HM.out; rw [← e, List.length_append, HLn.out]; omega, ?_, HB7.out, by rw [← e]; exact HU7.out, HX2.out⟩
            have hm := HM.out
            omega
          case measure => simp [intOf]; omega
        · have hX := HX.out
          rw [if_neg hcz] at hX
          have HR := Hid.mk' hX
          have t0 : ((c : Int) != 0) = true := by rw [bne_iff_ne]; omega
          clear hX HX
          go_wp2
          go_ret2
          exact ⟨MTxt.bad HR.out, HB5.out.below⟩
    · obtain rfl : k = l.length := by omega
      have HR : Hid (Pm.text wd.data.toList (parL l) = .inr acc) := by
        have := HX.out
        rw [← parL_length l, Pm.txt_end] at this
        exact this
      have hconv := HU.out.isB.str (P := Tryd.prog) 25 9 5 Tryd.underlying25 Tryd.underlying5 Tryd.underlying9
      rw [HM.out] at hconv
      clear HX
      go_wp2
      go_ret2
      exact ⟨MTxt.good (x := ⟨acc.toArray⟩) HR.out, HB.out.below⟩
end Go.Proofs.YtjpenioloeplgadDoor
