/- Small texts, one behind the other: PmTxC, FsE, FsF, FsG. -/
import Derived.Test.YtjpenioloeplgadGreatDoorPk21
import Derived.Test.YtjpenioloeplgadGreatDoorPk16
import Derived.Test.YtjpenioloeplgadGreatDoorPk19
import Derived.Test.YtjpenioloeplgadGreatDoorPk18
import Derived.Test.YtjpenioloeplgadGreatDoorPk7
import Derived.Test.YtjpenioloeplgadGreatDoorPk24
import Derived.Test.YtjpenioloeplgadGreatDoorPk22
import Derived.Test.YtjpenioloeplgadGreatDoorFlB
import Derived.Test.YtjpenioloeplgadGreatDoorPk6
/- Package params, walked: Text. -/
namespace Go.Proofs.YtjpenioloeplgadGreatDoor
open Go.RowKit

theorem txt_chk (acc : List UInt8) (L : List Pm.Par) (k : Nat) (hk : k < L.length) : Pm.txt acc (L.take k) (L.drop k) =
    if Pm.chk L[k].1 L[k].2 (L.take k) = 0 then Pm.txt (acc ++ Pm.one L[k]) (L.take (k + 1)) (L.drop (k + 1)) else .inl (Pm.chk L[k].1 L[k].2 (L.take k)) := by
  rw [Pm.txt_at acc L k hk]
  unfold Pm.chk
  by_cases h1 : Ch.isToken L[k].1 = false ∨ Ch.lower L[k].1 ≠ L[k].1
  · rw [if_pos h1, if_pos h1, if_neg (by decide)]
  · rw [if_neg h1, if_neg h1]
    by_cases h2 : ((L.take k).any fun q => q.1 == L[k].1) = true
    · rw [if_pos h2, if_pos h2, if_neg (by decide)]
    · rw [if_neg h2, if_neg h2]
      by_cases h3 : Ch.isVisible L[k].2 = false
      · rw [if_pos h3, if_pos h3, if_neg (by decide)]
      · rw [if_neg h3, if_neg h3, if_pos rfl]
theorem one_val (p : Pm.Par) : Pm.one p = [59, 32] ++ p.1 ++ [61] ++ Pm.valT p.2 := rfl
theorem BoxM.turns {S : Nat → Prop} {w wr w' : World} {wd : ByteArray} {ao : Option Addr} {n cap : Nat} (h : BoxM w wd ao n cap wr) (ht : Turns S wr w') (hS : ∀ k, S k → w.heap.size + 1 ≤ k) : BoxM w wd ao n cap w' := by
  have hs := h.size
  exact ⟨ht.row h.box (fun e => by have := hS _ e; omega), h.below.trans (ht.below (fun k e => by have := hS k e; omega) (by omega))⟩
theorem Buf.mono {w : World} {base base' g cap : Nat} {l : List UInt8} (h : Buf w base g cap l) (hb : base' ≤ base) : Buf w base' g cap l := ⟨Nat.le_trans hb h.base_, h.lt, h.le, h.max, h.holds, h.there⟩
theorem IsV.few {w : World} {ao : Option Addr} {cap n k : Nat} {l : List (ByteArray × ByteArray)} (h : IsV w ao cap n (pairV l)) (hk : k ≤ n) : IsV w ao cap k (pairV (l.take k)) := by
  refine ⟨Nat.le_trans hk h.1, h.2.1, fun j u hj => h.2.2 j u ?_⟩
  have e : pairV l = pairV (l.take k) ++ pairV (l.drop k) := by rw [← pairV_append, List.take_append_drop]
  rw [e, List.getElem?_append_left (List.getElem?_eq_some_iff.1 hj).1]
  exact hj
theorem parL_take (l : List (ByteArray × ByteArray)) (k : Nat) : parL (l.take k) = (parL l).take k := by simp [parL, List.map_take]
theorem parL_at (l : List (ByteArray × ByteArray)) (k : Nat) (h : k < l.length) : (parL l)[k]'(by rw [parL_length]; exact h) = (l[k].1.data.toList, l[k].2.data.toList) := by simp [parL]

set_option maxRecDepth 100000 in
set_option maxHeartbeats 3200000 in
theorem textP_any (wd : ByteArray) (l : List (ByteArray × ByteArray)) (ao : Option Addr) (cap n : Nat) (w : World) (hl : IsV w ao cap n (pairV l)) (hn : l.length = n) (hN : n ≤ 1000000) (hwz : wd.size ≤ 2000) (hpz : ∀ p ∈ l, p.1.size ≤ 2000 ∧ p.2.size ≤ 9000) :
    Calls Tryz.prog 63 #[.agg #[.string wd, .slice ao n cap]] w fun e w' => MTxt (Pm.text wd.data.toList (parL l)) e ∧ Below w.heap.size w w' := by
  subst hn
  have HIs := Hid.mk' hl
  have HZ := Hid.mk' hpz
  have hcap := hl.1
  have HB0 := Hid.mk' (BoxM.start w wd ao l.length cap)
  have HW := Hid.mk' (fun W => isWord_any wd W hwz)
  have HS := Hid.mk' (fun W => isSmall_any wd W (by unfold maxLen; omega))
  have hT : Pm.text wd.data.toList (parL l) = if Pm.wordOk wd.data.toList = false then .inl 5 else if 8 < (parL l).length then .inl 8 else Pm.txt wd.data.toList [] (parL l) := rfl
  rw [Pm.wordOk_two, parL_length] at hT
  have HT := Hid.mk' hT
  clear hl hpz hT
  have w0 := HB0.out.cells.1
  cases hw2 : Pm.wordTwo wd.data.toList
  · rw [hw2] at HW HT
    have HR : Hid (Pm.text wd.data.toList (parL l) = .inl 5) := by have := HT.out; rw [Bool.and_false, if_pos rfl] at this; exact this
    clear HT hw2
    go_enter Tryz.func63, Tryz.ntmps63
    go_wp2_with fail
    refine (HW.out _).mono ?_
    rintro e w1 ⟨rfl, q, hw⟩
    have HB1 : Hid (BoxM w wd ao l.length cap w1) := by rw [hw]; exact HB0.out.drewN q
    clear hw
    go_wp2
    go_ret2
    exact ⟨MTxt.bad HR.out, HB1.out.below⟩
  rw [hw2] at HW HT
  by_cases hlo : Ch.lower wd.data.toList = wd.data.toList
  rotate_left
  · rw [decide_eq_false hlo] at HS HT
    have HR : Hid (Pm.text wd.data.toList (parL l) = .inl 5) := by have := HT.out; rw [Bool.false_and, if_pos rfl] at this; exact this
    clear HT hw2 hlo
    go_enter Tryz.func63, Tryz.ntmps63
    go_wp2_with fail
    refine (HW.out _).mono ?_
    rintro e w1 ⟨rfl, q, hw⟩
    have HB1 : Hid (BoxM w wd ao l.length cap w1) := by rw [hw]; exact HB0.out.drewN q
    clear hw
    have c0 := HB1.out.cells.1
    go_wp2_with fail
    refine (HS.out _).mono ?_
    rintro e w2 ⟨rfl, b2⟩
    have HB2 := Hid.mk' (HB1.out.keep b2)
    clear b2
    go_wp2
    go_ret2
    exact ⟨MTxt.bad HR.out, HB2.out.below⟩
  rw [decide_eq_true hlo] at HS HT
  have hT := HT.out
  rw [if_neg (by simp)] at hT
  clear hw2 hlo HT
  go_enter Tryz.func63, Tryz.ntmps63
  go_wp2_with fail
  refine (HW.out _).mono ?_
  rintro e w1 ⟨rfl, q, hw⟩
  have HB1 : Hid (BoxM w wd ao l.length cap w1) := by rw [hw]; exact HB0.out.drewN q
  clear hw
  have c0 := HB1.out.cells.1
  go_wp2_with fail
  refine (HS.out _).mono ?_
  rintro e w2 ⟨rfl, b2⟩
  have HB2 := Hid.mk' (HB1.out.keep b2)
  clear b2 c0 HB1 HB0 w0 HW HS
  obtain ⟨c0, c1⟩ := HB2.out.cells
  by_cases h8 : 8 < l.length
  · rw [if_pos h8] at hT
    have HR := Hid.mk' hT
    have t8 : decide ((l.length : Int) > 8) = true := by rw [decide_eq_true_eq]; omega
    clear hT
    go_wp2
    go_ret2
    exact ⟨MTxt.bad HR.out, HB2.out.below⟩
  rw [if_neg h8] at hT
  have HT := Hid.mk' hT
  clear hT
  have t8 : decide ((l.length : Int) > 8) = false := by rw [decide_eq_false_iff_not]; omega
  obtain ⟨cap1, w3, hconv, b3, hbuf⟩ := buf_of (P := Tryz.prog) w2 wd 9 25 5 (by unfold maxLen; omega) Tryz.underlying9 Tryz.underlying25 Tryz.underlying5
  have HB3 := Hid.mk' (HB2.out.keep b3)
  have HU3 := Hid.mk' (hbuf.mono (base' := w.heap.size + 1) HB2.out.size)
  obtain ⟨i0, hi0, hz0, hz1, hz2⟩ := info_parts info_u8
  have Hi := Hid.mk' hi0; have Hz0 := Hid.mk' hz0; have Hz1 := Hid.mk' hz1; have Hz2 := Hid.mk' hz2
  clear hi0 hz0 hz1 hz2 b3 hbuf
  have c3 := HB3.out.cells.2
  go_wp2
  go_loopw [4, 30] (fun b t wr => ∃ (k g cap' m : Nat) (acc : List UInt8), k ≤ l.length ∧ t = .int .i64 k ∧ b = .slice (some ⟨g, 0, none⟩) m cap' ∧ m = acc.length ∧ m ≤ 9000 + k * 30000 ∧ BoxM w wd ao l.length cap wr ∧ Buf wr (w.heap.size + 1) g cap' acc ∧ Pm.text wd.data.toList (parL l) = Pm.txt acc ((parL l).take k) ((parL l).drop k)) (fun _ t _ => l.length - (intOf t).toNat)
  case atStart => exact ⟨0, w2.heap.size, cap1, wd.size, wd.data.toList, Nat.zero_le _, rfl, rfl, (Ch.len_list wd).symm, by omega, HB3.out, HU3.out, HT.out⟩
  case round =>
    clear HB3 HU3 HB2 c0 c1 c3 hconv HT
    obtain ⟨k, g, cap2, m, acc, hk, rfl, rfl, hm, hmz, hB, hU, hX⟩ := hrel
    have HB := Hid.mk' hB
    have HU := Hid.mk' hU
    have HX := Hid.mk' hX
    have HM := Hid.mk' hm.symm
    clear hB hU hX hm
    by_cases hlt : k < l.length
    · obtain ⟨bb, oo, rfl, hcs⟩ := (HIs.out.stay HB.out.below).lit (by rw [pairV_length]; omega)
      have hc0 := hcs _ _ (pairV_at l k hlt).1
      have hc1 : wr.cell? ⟨bb, oo + k * 2 + 1, none⟩ = some (.string l[k].2) := by
        have := hcs _ _ (pairV_at l k hlt).2
        rwa [← Nat.add_assoc] at this
      clear hcs
      have hlt' : (k : Int) < l.length := by omega
      have hz := HZ.out l[k] (List.getElem_mem hlt)
      have hX := HX.out
      rw [txt_chk acc (parL l) k (by rw [parL_length]; exact hlt), parL_at l k hlt, ← parL_take] at hX
      have hI0 := (HIs.out.stay HB.out.below).few (k := k) (by omega)
      have hBp : Below wr.heap.size wr (wr.alloc (.cells #[.string l[k].1, .string l[k].2] 97)) := (Below.refl _ _).alloc (Nat.le_refl _) _
      have HPb : Hid ((wr.alloc (.cells #[.string l[k].1, .string l[k].2] 97)).heap[wr.heap.size]? = some (.cells #[.string l[k].1, .string l[k].2] 97 (0, 0))) := heap_alloc_new wr _
      have HI := Hid.mk' (hI0.stay hBp)
      have HBa := Hid.mk' (HB.out.keep hBp)
      have HUa := Hid.mk' (HU.out.keep hBp)
      have hgl := HU.out.lt
      have HCk := Hid.mk' (fun W (hW : IsV W (some ⟨bb, oo, none⟩) cap k (pairV (l.take k))) => check_any l[k].1 l[k].2 (l.take k) (some ⟨bb, oo, none⟩) cap k W hW (by rw [List.length_take]; omega) (by omega) hz.1 hz.2)
      have hck : k ≤ cap := by omega
      have hck' : (k : Int) ≤ cap := by omega
      clear hI0 hBp HX
      generalize hch : Pm.chk l[k].1.data.toList l[k].2.data.toList (parL (l.take k)) = c at *
      have hO := one_val (l[k].1.data.toList, l[k].2.data.toList)
      simp only [] at hO hX
      clear hch
      generalize l[k] = p at *
      have p0 : (wr.alloc (.cells #[.string p.1, .string p.2] 97)).cell? ⟨wr.heap.size, 0, none⟩ = some (.string p.1) := cell_of_row _ _ 0 _ _ _ HPb.out
      have p1 : (wr.alloc (.cells #[.string p.1, .string p.2] 97)).cell? ⟨wr.heap.size, 1, none⟩ = some (.string p.2) := cell_of_row _ _ 1 _ _ _ HPb.out
      have m1 := HBa.out.cells.2
      have HX := Hid.mk' hX
      have HO := Hid.mk' hO
      clear hX hO
      go_wp2
      go_region_held3 (fun w' => w'.cell? ⟨wr.heap.size, 0, none⟩ = some (.string p.1) ∧ w'.cell? ⟨wr.heap.size, 1, none⟩ = some (.string p.2) ∧ w'.cell? ⟨w.heap.size, 1, none⟩ = some (.slice (some ⟨bb, oo, none⟩) l.length cap)) (go_keep) (first | (go_at_call 90; refine (HCk.out _ (HI.out.stay (below_drew _ _))).mono ?_; rintro e w5 ⟨rfl, hB5⟩; have hb5 := then_ (below_drew _ _) hB5; have HB5 := Hid.mk' (HBa.out.keep hb5); have HU5 := Hid.mk' (HUa.out.keep hb5); have HP5 := Hid.mk' ((hb5.block _ (Array.getElem?_eq_some_iff.1 HPb.out).1).trans HPb.out); have q0 : w5.cell? ⟨wr.heap.size, 0, none⟩ = some (.string p.1) := cell_of_row _ _ 0 _ _ _ HP5.out; have q1 : w5.cell? ⟨wr.heap.size, 1, none⟩ = some (.string p.2) := cell_of_row _ _ 1 _ _ _ HP5.out; have n1 := HB5.out.cells.2; clear hB5 hb5))
      all_goals
        clear p0 p1 m1 HBa HUa HI HPb hc0 hc1 HCk
        by_cases hcz : c = 0
        · have hX := HX.out
          rw [if_pos hcz] at hX
          subst hcz
          have HX2 := Hid.mk' hX
          clear hX HX
          have hxs : (⟨#[59, 32]⟩ ++ p.1 ++ ⟨#[61]⟩ : ByteArray).size = p.1.size + 3 := by
            rw [ByteArray.size_append, ByteArray.size_append]; show 2 + p.1.size + 1 = p.1.size + 3; omega
          have HXs := Hid.mk' hxs
          have HXd : Hid ((⟨#[59, 32]⟩ ++ p.1 ++ ⟨#[61]⟩ : ByteArray).data.toList = [59, 32] ++ p.1.data.toList ++ [61]) := by
            unfold Hid; rw [Ch.data_append, Ch.data_append]
          have hvl : (Pm.valT p.2.data.toList).length ≤ 2 * p.2.size + 2 := by
            have := Pm.esc_length p.2.data.toList
            rw [Ch.len_list] at this
            unfold Pm.valT
            split
            · rw [Ch.len_list]; omega
            · simp; omega
          clear hxs
          go_wp2_with (at_builtin; refine wpList_append_buf rfl (.tmp 44) (.tmp 48) 25 9 rfl 5 i0 Tryz.underlying25 Hi.out Hz0.out Hz1.out Hz2.out rfl HU5.out HM.out _ _ rfl (src_text Tryz.underlying9 _ _) (by rw [HXs.out]; omega) ?_; intro g6 cap6 w6 hU6 hT6; have HU6 := Hid.mk' hU6; have HB6 := Hid.mk' (HB5.out.turns hT6 (fun k e => by rw [e]; exact HU5.out.base_)); have HP6 := Hid.mk' (hT6.row HP5.out (by omega)); have r1 : w6.cell? ⟨wr.heap.size, 1, none⟩ = some (.string p.2) := cell_of_row _ _ 1 _ _ _ HP6.out; clear hU6 hT6)
          have hlen : (acc ++ (⟨#[59, 32]⟩ ++ p.1 ++ ⟨#[61]⟩ : ByteArray).data.toList).length = m + (2 + p.1.size + 1) := by rw [List.length_append, HM.out, Ch.len_list, HXs.out]; omega
          refine (appendValue_any p.2 (w.heap.size + 1) g6 cap6 _ _ w6 HU6.out hlen (by omega) hz.2).mono ?_
          rintro e w7 ⟨g7, cap7, rfl, hU7, hT7⟩
          have HU7 := Hid.mk' hU7
          have HB7 := Hid.mk' (HB6.out.turns hT7 (fun k e => e))
          have HLn := Hid.mk' hlen
          clear hU7 hT7 hlen
          go_wp2
          go_roundw
          case rel =>
            have e : acc ++ (⟨#[59, 32]⟩ ++ p.1 ++ ⟨#[61]⟩ : ByteArray).data.toList ++ Pm.valT p.2.data.toList = acc ++ Pm.one (p.1.data.toList, p.2.data.toList) := by
              rw [HO.out, HXd.out]; simp
            refine ⟨k + 1, g7, cap7, _, acc ++ Pm.one (p.1.data.toList, p.2.data.toList), by omega, by go_num, rfl, by have hm := HM.out; rw [← e, List.length_append, HLn.out]; omega, ?_, HB7.out, by rw [← e]; exact HU7.out, HX2.out⟩
            have hm := HM.out
            omega
          case measure => simp [intOf]; omega
        · have hX := HX.out
          rw [if_neg hcz] at hX
          have HR := Hid.mk' hX
          have t0 : ((c : Int) != 0) = true := by rw [bne_iff_ne]; omega
          clear hX HX
          go_wp2
          go_ret2
          exact ⟨MTxt.bad HR.out, HB5.out.below⟩
    · obtain rfl : k = l.length := by omega
      have HR : Hid (Pm.text wd.data.toList (parL l) = .inr acc) := by
        have := HX.out
        rw [← parL_length l, Pm.txt_end] at this
        exact this
      have hconv := HU.out.isB.str (P := Tryz.prog) 25 9 5 Tryz.underlying25 Tryz.underlying5 Tryz.underlying9
      rw [HM.out] at hconv
      clear HX
      go_wp2
      go_ret2
      exact ⟨MTxt.good (x := ⟨acc.toArray⟩) HR.out, HB.out.below⟩
end Go.Proofs.YtjpenioloeplgadGreatDoor

/- Package forms, walked: fileName, disposition. -/
namespace Go.Proofs.YtjpenioloeplgadGreatDoor
open Go.RowKit

theorem get_parL (name : ByteArray) : ∀ ps : List (ByteArray × ByteArray), (Pm_get name ps).map (fun x => x.data.toList) = Fm.get name.data.toList (parL ps)
  | [] => rfl
  | p :: t => by
    have ih := get_parL name t
    unfold Fm.get parL at *
    rw [List.map_cons, List.find?_cons]
    unfold Pm_get
    by_cases h : p.1.data.toList = name.data.toList
    · rw [if_pos h]
      have : ((p.1.data.toList, p.2.data.toList).1 == name.data.toList) = true := by simpa using h
      rw [this]; rfl
    · rw [if_neg h]
      have : ((p.1.data.toList, p.2.data.toList).1 == name.data.toList) = false := by simpa using h
      rw [this]; exact ih
theorem get_yes {name : ByteArray} {ps : List (ByteArray × ByteArray)} {x : ByteArray} (h : Pm_get name ps = some x) : Fm.get name.data.toList (parL ps) = some x.data.toList ∧ ∃ p ∈ ps, p.2 = x := by
  refine ⟨by rw [← get_parL, h]; rfl, ?_⟩
  induction ps with
  | nil => cases h
  | cons p t ih =>
    unfold Pm_get at h
    split at h
    · injection h with h; exact ⟨p, List.mem_cons_self .., h⟩
    · obtain ⟨q, hq, e⟩ := ih h; exact ⟨q, List.mem_cons_of_mem _ hq, e⟩
theorem get_no {name : ByteArray} {ps : List (ByteArray × ByteArray)} (h : Pm_get name ps = none) : Fm.get name.data.toList (parL ps) = none := by rw [← get_parL, h]; rfl
/-- the one value of a name's fields -/
theorem one_is (name low : ByteArray) (l : List (ByteArray × ByteArray)) (h : Ch.lower name.data.toList = low.data.toList) (h2 : Ch.lower low.data.toList = low.data.toList) : Fd.one (Fd.vals name l) = Fm.one (Rq.vals (Rq.flB l) low.data.toList) := by
  rw [Rq.vals_flB l low h2, Fd.vals_same name low l (h.trans h2.symm)]
  unfold Fd.one Fm.one
  match Fd.vals low l with
  | [] => rfl
  | [v] => rfl
  | _ :: _ :: _ => rfl
/-- a box stays -/
theorem box_stay {w W W' : World} {cs : Array Value} {t : Nat} (h : W.heap[w.heap.size]? = some (.cells cs t (0, 0))) (hb : Below W.heap.size W W') : W'.heap[w.heap.size]? = some (.cells cs t (0, 0)) := (hb.block _ (Array.getElem?_eq_some_iff.1 h).1).trans h

set_option maxRecDepth 100000 in
set_option maxHeartbeats 2000000 in
theorem fileName_any (word : ByteArray) (ps : List (ByteArray × ByteArray)) (ao : Option Addr) (cap n : Nat) (w : World) (hl : IsV w ao cap n (pairV ps)) (hn : ps.length = n) (hN : n ≤ 1000) (hz : ∀ p ∈ ps, p.2.size ≤ 100000) :
    Calls Tryz.prog 26 #[.agg #[.string word, .slice ao n cap]] w fun e w' => e = .returned (Fm.codedV (Fm.file (parL ps))) ∧ Below w.heap.size w w' := by
  have hb0 : Below w.heap.size w (w.alloc (.cells #[.string word, .slice ao n cap] 61)) := (Below.refl _ _).alloc (Nat.le_refl _) _
  have HG1 := Hid.mk' (getP_any word ps ⟨#[102, 105, 108, 101, 110, 97, 109, 101, 42]⟩ ao cap n _ (hl.stay hb0) hn (by omega) (fun p hp => by have := hz p hp; omega))
  have HG2 : Hid (∀ W, Below (w.alloc (.cells #[.string word, .slice ao n cap] 61)).heap.size (w.alloc (.cells #[.string word, .slice ao n cap] 61)) W → Calls Tryz.prog 25 #[.agg #[.string word, .slice ao n cap], .string ⟨#[102, 105, 108, 101, 110, 97, 109, 101]⟩] W fun e w' => e = .returned (.tuple #[.string ((Pm_get ⟨#[102, 105, 108, 101, 110, 97, 109, 101]⟩ ps).getD ⟨#[]⟩), .bool (Pm_get ⟨#[102, 105, 108, 101, 110, 97, 109, 101]⟩ ps).isSome]) ∧ Below W.heap.size W w') := fun W hW => getP_any word ps _ ao cap n W ((hl.stay hb0).stay hW) hn (by omega) (fun p hp => by have := hz p hp; omega)
  have HB0 := Hid.mk' hb0
  have HZ := Hid.mk' hz
  have HR0 := Hid.mk' (heap_alloc_new w (.cells #[.string word, .slice ao n cap] 61))
  clear hl hz hb0
  cases h1 : Pm_get ⟨#[102, 105, 108, 101, 110, 97, 109, 101, 42]⟩ ps with
  | some x =>
    obtain ⟨g1, p, hp, rfl⟩ := get_yes h1
    have hxz := HZ.out p hp
    rw [h1] at HG1
    have hF : Fm.file (parL ps) = (Fm.coded p.2.data.toList).map Fm.safe := by
      unfold Fm.file
      have : Fm.get Fm.nFstar (parL ps) = some p.2.data.toList := g1
      rw [this]
    have HF := Hid.mk' hF
    have HDc := Hid.mk' (fun W => decode_any p.2 W (by omega))
    clear h1 g1 hp hF
    cases hc : Fm.coded p.2.data.toList with
    | none =>
      rw [hc] at HDc HF
      clear hc
      go_enter Tryz.func26, Tryz.ntmps26
      go_wp2_with fail
      refine HG1.out.mono ?_
      rintro e w1 ⟨rfl, hb1⟩
      go_wp2_with fail
      refine (HDc.out _).mono ?_
      rintro e w2 ⟨rfl, hb2⟩
      unfold Fm.codedV
      have HBb := Hid.mk' (then_ (then_ HB0.out hb1) hb2)
      clear hb1 hb2
      go_wp2
      go_ret2
      exact ⟨by rw [HF.out]; rfl, HBb.out⟩
    | some y =>
      have hy := Fm.coded_len hc
      rw [Ch.len_list] at hy
      rw [hc] at HDc HF
      have HSf := Hid.mk' (fun W => safe_any ⟨y.toArray⟩ W (by show y.toArray.size ≤ _; rw [List.size_toArray]; omega))
      clear hc
      go_enter Tryz.func26, Tryz.ntmps26
      go_wp2_with fail
      refine HG1.out.mono ?_
      rintro e w1 ⟨rfl, hb1⟩
      go_wp2_with fail
      refine (HDc.out _).mono ?_
      rintro e w2 ⟨rfl, hb2⟩
      unfold Fm.codedV
      go_wp2_with fail
      refine (HSf.out _).mono ?_
      rintro e w3 ⟨rfl, hb3⟩
      have HBb := Hid.mk' (then_ (then_ (then_ HB0.out hb1) hb2) hb3)
      clear hb1 hb2 hb3
      go_wp2
      go_ret2
      exact ⟨by rw [HF.out]; rfl, HBb.out⟩
  | none =>
    have g1 := get_no h1
    rw [h1] at HG1
    clear h1
    cases h2 : Pm_get ⟨#[102, 105, 108, 101, 110, 97, 109, 101]⟩ ps with
    | some x =>
      obtain ⟨g2, p, hp, rfl⟩ := get_yes h2
      have hxz := HZ.out p hp
      rw [h2] at HG2
      have hF : Fm.file (parL ps) = some (Fm.safe p.2.data.toList) := by
        unfold Fm.file
        have e1 : Fm.get Fm.nFstar (parL ps) = none := g1
        have e2 : Fm.get Fm.nFname (parL ps) = some p.2.data.toList := g2
        rw [e1, e2]
      have HF := Hid.mk' hF
      have HSf := Hid.mk' (fun W => safe_any p.2 W (by omega))
      clear h2 g1 g2 hp hF
      go_enter Tryz.func26, Tryz.ntmps26
      go_wp2_with fail
      refine HG1.out.mono ?_
      rintro e w1 ⟨rfl, hb1⟩
      have hr1 := box_stay HR0.out hb1
      have c0 : w1.cell? ⟨w.heap.size, 0, none⟩ = some (.string word) := cell_of_row w1 _ 0 _ _ _ hr1
      have c1 : w1.cell? ⟨w.heap.size, 1, none⟩ = some (.slice ao n cap) := cell_of_row w1 _ 1 _ _ _ hr1
      have HB1 := Hid.mk' hb1
      clear hb1 hr1
      go_wp2_with fail
      refine (HG2.out _ HB1.out).mono ?_
      rintro e w2 ⟨rfl, hb2⟩
      go_wp2_with fail
      refine (HSf.out _).mono ?_
      rintro e w3 ⟨rfl, hb3⟩
      have HBb := Hid.mk' (then_ (then_ (then_ HB0.out HB1.out) hb2) hb3)
      clear hb2 hb3
      go_wp2
      go_ret2
      exact ⟨by rw [HF.out]; rfl, HBb.out⟩
    | none =>
      have g2 := get_no h2
      rw [h2] at HG2
      have hF : Fm.file (parL ps) = some [] := by
        unfold Fm.file
        have e1 : Fm.get Fm.nFstar (parL ps) = none := g1
        have e2 : Fm.get Fm.nFname (parL ps) = none := g2
        rw [e1, e2]
      have HF := Hid.mk' hF
      clear h2 g1 g2 hF
      go_enter Tryz.func26, Tryz.ntmps26
      go_wp2_with fail
      refine HG1.out.mono ?_
      rintro e w1 ⟨rfl, hb1⟩
      have hr1 := box_stay HR0.out hb1
      have c0 : w1.cell? ⟨w.heap.size, 0, none⟩ = some (.string word) := cell_of_row w1 _ 0 _ _ _ hr1
      have c1 : w1.cell? ⟨w.heap.size, 1, none⟩ = some (.slice ao n cap) := cell_of_row w1 _ 1 _ _ _ hr1
      have HB1 := Hid.mk' hb1
      clear hb1 hr1
      go_wp2_with fail
      refine (HG2.out _ HB1.out).mono ?_
      rintro e w2 ⟨rfl, hb2⟩
      have HBb := Hid.mk' (then_ (then_ HB0.out HB1.out) hb2)
      clear hb2
      go_wp2
      go_ret2
      exact ⟨by rw [HF.out]; rfl, HBb.out⟩
end Go.Proofs.YtjpenioloeplgadGreatDoor

/- Package forms, walked: disposition, Part. -/
namespace Go.Proofs.YtjpenioloeplgadGreatDoor
open Go.RowKit

def DispIs (m : Nat ⊕ List Pm.Par) (ps : List (ByteArray × ByteArray)) (code : Nat) : Prop :=
  match m with
  | .inl c => code = c ∧ c ≠ 0
  | .inr x => code = 0 ∧ parL ps = x
/-- what disposition answers -/
def DispOut (w : World) (m : Nat ⊕ List Pm.Par) (e : Ending) (w' : World) : Prop :=
  ∃ word ps ao cap, ∃ code : Nat, e = .returned (.tuple #[.agg #[.string word, .slice ao ps.length cap], .int .i64 (code : Int)]) ∧ DispIs m ps code ∧ OwnV w' w.heap.size 97 2 ao cap ps.length (pairV ps) ∧ Below w.heap.size w w'
theorem DispOut.bad {w w' : World} {m : Nat ⊕ List Pm.Par} {c : Nat} (hm : m = .inl c) (hc : c ≠ 0) (hb : Below w.heap.size w w') : DispOut w m (.returned (.tuple #[.agg #[.string ⟨#[]⟩, .slice none 0 0], .int .i64 (c : Int)])) w' := by
  subst hm
  exact ⟨⟨#[]⟩, [], none, 0, c, rfl, ⟨rfl, hc⟩, OwnV.nil _ _ _ _, hb⟩
def bDispo : ByteArray := ⟨#[67, 111, 110, 116, 101, 110, 116, 45, 68, 105, 115, 112, 111, 115, 105, 116, 105, 111, 110]⟩
def bType : ByteArray := ⟨#[67, 111, 110, 116, 101, 110, 116, 45, 84, 121, 112, 101]⟩
/-- the answer's place -/
structure ResM (w W : World) : Prop where
  row : W.heap[w.heap.size]? = some (.cells #[.string ⟨#[]⟩, .slice none 0 0] 61 (0, 0))
  below : Below w.heap.size w W
theorem ResM.stay {w W W' : World} (h : ResM w W) (hb : Below W.heap.size W W') : ResM w W' := ⟨box_stay h.row hb, then_ h.below hb⟩
theorem ResM.cells {w W : World} (h : ResM w W) : W.cell? ⟨w.heap.size, 0, none⟩ = some (.string ⟨#[]⟩) ∧ W.cell? ⟨w.heap.size, 1, none⟩ = some (.slice none 0 0) ∧ W.frozen? ⟨w.heap.size, 0, none⟩ = false ∧ W.frozen? ⟨w.heap.size, 1, none⟩ = false :=
  ⟨cell_of_row W _ 0 _ _ _ h.row, cell_of_row W _ 1 _ _ _ h.row, frozen_of_row W _ 0 _ _ h.row, frozen_of_row W _ 1 _ _ h.row⟩

set_option maxRecDepth 100000 in
set_option maxHeartbeats 2000000 in
theorem disposition_any (l : List (ByteArray × ByteArray)) (ao : Option Addr) (cap n : Nat) (w : World) (hl : IsV w ao cap n (pairV l)) (hn : l.length = n) (hN : n ≤ 1000) (hz : ∀ p ∈ l, p.1.size ≤ 2000 ∧ p.2.size ≤ 2000) :
    Calls Tryz.prog 24 #[.slice ao n cap] w fun e w' => DispOut w (Fm.disp (Fd.one (Fd.vals bDispo l))) e w' := by
  have hR0 : ResM w (w.alloc (.cells #[.string ⟨#[]⟩, .slice none 0 0] 61)) := ⟨heap_alloc_new w _, (Below.refl _ _).alloc (Nat.le_refl _) _⟩
  have HO := Hid.mk' (fdOne_any l bDispo ao cap n _ (hl.stay ((Below.refl _ _).alloc (Nat.le_refl _) (.cells #[.string ⟨#[]⟩, .slice none 0 0] 61))) hn (by omega) hz (by decide))
  have HR0 := Hid.mk' hR0
  have hd2 : (Fd.one (Fd.vals bDispo l)).1.length ≤ 2000 := by
    have hm : ∀ v ∈ Fd.vals bDispo l, v.size ≤ 2000 := fun v hv => by
      obtain ⟨p, hp, rfl⟩ := Fd.vals_mem hv
      exact (hz p hp).2
    unfold Fd.one
    split
    · exact Nat.zero_le _
    · rename_i v hv
      have := hm v (by rw [hv]; simp)
      rw [Ch.len_list]; exact this
    · exact Nat.zero_le _
  unfold txVal at HO
  unfold bDispo at HO
  clear hl hz hR0
  generalize hd : Fd.one (Fd.vals bDispo l) = d at *
  have hd' : Fd.one (Fd.vals ⟨#[67, 111, 110, 116, 101, 110, 116, 45, 68, 105, 115, 112, 111, 115, 105, 116, 105, 111, 110]⟩ l) = d := hd
  rw [hd'] at HO
  clear hd hd'
  by_cases h0 : d.2 = 0
  · have t0 : ((d.2 : Int) != 0) = false := by rw [h0]; rfl
    have HPs := Hid.mk' (fun W => parseP_any ⟨d.1.toArray⟩ W (by show d.1.toArray.size ≤ _; rw [List.size_toArray]; omega))
    have hdt : (⟨d.1.toArray⟩ : ByteArray).data.toList = d.1 := rfl
    rw [hdt] at HPs
    generalize (⟨d.1.toArray⟩ : ByteArray) = vt at *
    clear hdt
    cases hm : Pm.media d.1 with
    | inl c =>
      have hc := Fm.media_code hm
      have HD := Hid.mk' (Fm.disp_bad h0 hm)
      rw [hm] at HPs
      have tc : ((c : Int) != 0) = true := by rw [bne_iff_ne]; omega
      have HC := Hid.mk' hc
      clear hm hc h0
      go_enter Tryz.func24, Tryz.ntmps24
      go_wp2_with fail
      refine HO.out.mono ?_
      rintro e w1 ⟨rfl, hb1⟩
      have HR1 := Hid.mk' (HR0.out.stay hb1)
      clear hb1
      go_wp2_with fail
      refine (HPs.out w1).mono ?_
      rintro e w2 ⟨word, ps, ao2, cap2, code, rfl, ⟨rfl, hwd, hps⟩, hO2, hb2⟩
      have hR2 := (HR1.out.stay hb2).stay ((Below.refl _ _).alloc (Nat.le_refl _) (.cells #[.string word, .slice ao2 ps.length cap2] 61))
      obtain ⟨c0, c1, f0, f1⟩ := hR2.cells
      have HR2 := Hid.mk' hR2
      clear hb2 hR2 hwd hps hO2
      go_wp2
      refine bodyPost_ret (v := .tuple #[.agg #[.string ⟨#[]⟩, .slice none 0 0], .int .i64 (code : Int)]) (by simp [results, Tryz.results24, go_sem, c0, c1]) rfl (DispOut.bad HD.out HC.out ?_)
      first | exact HR2.out.below | exact (HR2.out.below.setCell (Nat.le_refl _) _).setCell (Nat.le_refl _) _
    | inr x =>
      by_cases hx : x.1 = Fm.nForm
      · have HD := Hid.mk' (Fm.disp_ok h0 hm hx)
        rw [hm] at HPs
        clear hm h0
        go_enter Tryz.func24, Tryz.ntmps24
        go_wp2_with fail
        refine HO.out.mono ?_
        rintro e w1 ⟨rfl, hb1⟩
        have HR1 := Hid.mk' (HR0.out.stay hb1)
        clear hb1
        go_wp2_with fail
        refine (HPs.out w1).mono ?_
        rintro e w2 ⟨word, ps, ao2, cap2, code, rfl, ⟨rfl, hwd, hps⟩, hO2, hb2⟩
        have hR2 := (HR1.out.stay hb2).stay ((Below.refl _ _).alloc (Nat.le_refl _) (.cells #[.string word, .slice ao2 ps.length cap2] 61))
        obtain ⟨c0, c1, f0, f1⟩ := hR2.cells
        have HR2 := Hid.mk' hR2
        have tw : (word.toList == [102, 111, 114, 109, 45, 100, 97, 116, 97]) = true := by
          rw [beq_iff_eq, Lib.toList_data, hwd, hx]; rfl
        have HPp := Hid.mk' hps
        have hz1 := HR1.out.below.size
        have hgt : w.heap.size < w1.heap.size := (Array.getElem?_eq_some_iff.1 HR1.out.row).1
        have HO3 := Hid.mk' ((hO2.mono (show w.heap.size ≤ w1.heap.size from hz1)).stay ((Below.refl _ _).alloc (Nat.le_refl _) (.cells #[.string word, .slice ao2 ps.length cap2] 61)))
        have HNe : Hid (∀ a, ao2 = some a → a.block ≠ w.heap.size) := fun a e => by have := (hO2.block a e).1; omega
        clear hb2 hR2 hwd hps hO2
        go_wp2
        refine bodyPost_ret (v := .tuple #[.agg #[.string word, .slice ao2 ps.length cap2], .int .i64 0]) (by simp [results, Tryz.results24, go_sem, c0, c1]) rfl ⟨word, ps, ao2, cap2, 0, rfl, ?_, ?_, ?_⟩
        · rw [HD.out]; exact ⟨rfl, HPp.out⟩
        · exact ((HO3.out.turns (Turns.setCell (fun k => k = w.heap.size) _ _ _ rfl) (fun a e => HNe.out a e)).turns (Turns.setCell (fun k => k = w.heap.size) _ _ _ rfl) (fun a e => HNe.out a e))
        · exact (HR2.out.below.setCell (Nat.le_refl _) _).setCell (Nat.le_refl _) _
      · have HD := Hid.mk' (Fm.disp_kind h0 hm hx)
        rw [hm] at HPs
        clear hm h0
        go_enter Tryz.func24, Tryz.ntmps24
        go_wp2_with fail
        refine HO.out.mono ?_
        rintro e w1 ⟨rfl, hb1⟩
        have HR1 := Hid.mk' (HR0.out.stay hb1)
        clear hb1
        go_wp2_with fail
        refine (HPs.out w1).mono ?_
        rintro e w2 ⟨word, ps, ao2, cap2, code, rfl, ⟨rfl, hwd, hps⟩, hO2, hb2⟩
        have hR2 := (HR1.out.stay hb2).stay ((Below.refl _ _).alloc (Nat.le_refl _) (.cells #[.string word, .slice ao2 ps.length cap2] 61))
        obtain ⟨c0, c1, f0, f1⟩ := hR2.cells
        have HR2 := Hid.mk' hR2
        have tw : (word.toList == [102, 111, 114, 109, 45, 100, 97, 116, 97]) = false := by
          rw [beq_eq_false_iff_ne, Lib.toList_data, hwd]; exact hx
        clear hb2 hR2 hwd hps hO2
        go_wp2
        refine bodyPost_ret (v := .tuple #[.agg #[.string ⟨#[]⟩, .slice none 0 0], .int .i64 11]) (by simp [results, Tryz.results24, go_sem, c0, c1]) rfl (DispOut.bad (c := 11) HD.out (by decide) ?_)
        first | exact HR2.out.below | exact (HR2.out.below.setCell (Nat.le_refl _) _).setCell (Nat.le_refl _) _
  · have t0 : ((d.2 : Int) != 0) = true := by rw [bne_iff_ne]; omega
    have HD : Hid (Fm.disp d = .inl d.2) := by unfold Hid Fm.disp; rw [if_pos h0]
    have H0 := Hid.mk' h0
    clear h0
    go_enter Tryz.func24, Tryz.ntmps24
    go_wp2_with fail
    refine HO.out.mono ?_
    rintro e w1 ⟨rfl, hb1⟩
    have hR1 := HR0.out.stay hb1
    obtain ⟨c0, c1, f0, f1⟩ := hR1.cells
    have HR1 := Hid.mk' hR1
    clear hb1 hR1
    go_wp2
    refine bodyPost_ret (v := .tuple #[.agg #[.string ⟨#[]⟩, .slice none 0 0], .int .i64 (d.2 : Int)]) (by simp [results, Tryz.results24, go_sem, c0, c1]) rfl (DispOut.bad HD.out H0.out ?_)
    first | exact HR1.out.below | exact (HR1.out.below.setCell (Nat.le_refl _) _).setCell (Nat.le_refl _) _
end Go.Proofs.YtjpenioloeplgadGreatDoor

/- Package forms, walked: Part. -/
namespace Go.Proofs.YtjpenioloeplgadGreatDoor
open Go.RowKit

/-- what Part answers, as a value -/
def Fm.partV : Nat ⊕ Fm.Prt → Value
  | .inl c => .tuple #[.agg #[.string ⟨#[]⟩, .string ⟨#[]⟩, .string ⟨#[]⟩, .slice none 0 0], .int .i64 (c : Int)]
  | .inr p => .tuple #[.agg #[.string ⟨p.name.toArray⟩, .string ⟨p.file.toArray⟩, .string ⟨p.type.toArray⟩, .slice none 0 0], .int .i64 0]
/-- the answer's place -/
structure ResP (w W : World) : Prop where
  row : W.heap[w.heap.size]? = some (.cells #[.string ⟨#[]⟩, .string ⟨#[]⟩, .string ⟨#[]⟩, .slice none 0 0] 27 (0, 0))
  below : Below w.heap.size w W
theorem ResP.stay {w W W' : World} (h : ResP w W) (hb : Below W.heap.size W W') : ResP w W' := ⟨box_stay h.row hb, then_ h.below hb⟩
theorem ResP.cells {w W : World} (h : ResP w W) : W.cell? ⟨w.heap.size, 0, none⟩ = some (.string ⟨#[]⟩) ∧ W.cell? ⟨w.heap.size, 1, none⟩ = some (.string ⟨#[]⟩) ∧ W.cell? ⟨w.heap.size, 2, none⟩ = some (.string ⟨#[]⟩) ∧ W.cell? ⟨w.heap.size, 3, none⟩ = some (.slice none 0 0) ∧ W.frozen? ⟨w.heap.size, 0, none⟩ = false ∧ W.frozen? ⟨w.heap.size, 1, none⟩ = false ∧ W.frozen? ⟨w.heap.size, 2, none⟩ = false ∧ W.frozen? ⟨w.heap.size, 3, none⟩ = false :=
  ⟨cell_of_row W _ 0 _ _ _ h.row, cell_of_row W _ 1 _ _ _ h.row, cell_of_row W _ 2 _ _ _ h.row, cell_of_row W _ 3 _ _ _ h.row, frozen_of_row W _ 0 _ _ h.row, frozen_of_row W _ 1 _ _ h.row, frozen_of_row W _ 2 _ _ h.row, frozen_of_row W _ 3 _ _ h.row⟩
theorem below4 {w W : World} (h : Below w.heap.size w W) (v0 v1 v2 v3 : Value) : Below w.heap.size w ((((W.setCell ⟨w.heap.size, 0, none⟩ v0).setCell ⟨w.heap.size, 1, none⟩ v1).setCell ⟨w.heap.size, 2, none⟩ v2).setCell ⟨w.heap.size, 3, none⟩ v3) :=
  (((h.setCell (Nat.le_refl _) _).setCell (Nat.le_refl _) _).setCell (Nat.le_refl _) _).setCell (Nat.le_refl _) _
theorem pair_len (ps : List (ByteArray × ByteArray)) : (parL ps).length = ps.length := parL_length ps

set_option maxRecDepth 100000 in
set_option maxHeartbeats 4000000 in
theorem part_by (l : List (ByteArray × ByteArray)) (ao : Option Addr) (cap n : Nat) (w : World) (hl : IsV w ao cap n (pairV l)) (hn : l.length = n) (hN : n ≤ 1000) (hz : ∀ p ∈ l, p.1.size ≤ 2000 ∧ p.2.size ≤ 2000) :
    Calls Tryz.prog 8 #[.slice ao n cap] w fun e w' => e = .returned (Fm.partV (Fm.partBy (Fd.one (Fd.vals bDispo l)) (Fd.one (Fd.vals bType l)))) ∧ Below w.heap.size w w' := by
  have hR0 : ResP w (w.alloc (.cells #[.string ⟨#[]⟩, .string ⟨#[]⟩, .string ⟨#[]⟩, .slice none 0 0] 27)) := ⟨heap_alloc_new w _, (Below.refl _ _).alloc (Nat.le_refl _) _⟩
  have HL : Hid (∀ W, Below w.heap.size w W → IsV W ao cap n (pairV l)) := fun W hW => hl.stay hW
  have HD := Hid.mk' (disposition_any l ao cap n _ (HL.out _ hR0.below) hn hN hz)
  have HTy : Hid (∀ W, Below w.heap.size w W → Calls Tryz.prog 27 #[.slice ao n cap, .string bType] W fun e w' => e = .returned (txVal (Fd.one (Fd.vals bType l))) ∧ Below W.heap.size W w') := fun W hW => fdOne_any l bType ao cap n W (HL.out W hW) hn (by omega) hz (by decide)
  have HR0 := Hid.mk' hR0
  have hd2 : (Fd.one (Fd.vals bDispo l)).1.length ≤ 2000 := by
    have hm : ∀ v ∈ Fd.vals bDispo l, v.size ≤ 2000 := fun v hv => by
      obtain ⟨p, hp, rfl⟩ := Fd.vals_mem hv
      exact (hz p hp).2
    unfold Fd.one
    split
    · exact Nat.zero_le _
    · rename_i v hv
      have := hm v (by rw [hv]; simp)
      rw [Ch.len_list]; exact this
    · exact Nat.zero_le _
  unfold txVal at HTy
  clear hl hz hR0 HL
  generalize Fd.one (Fd.vals bDispo l) = d at *
  generalize Fd.one (Fd.vals bType l) = t at *
  have hP := Fm.partBy_disp d t
  unfold bType at HTy
  cases hdi : Fm.disp d with
  | inl c =>
    rw [hdi] at HD hP
    have HP : Hid (Fm.partBy d t = .inl c) := hP
    clear hdi hP HTy
    go_enter Tryz.func8, Tryz.ntmps8
    go_wp2_with fail
    refine HD.out.mono ?_
    rintro e w1 ⟨word, ps, ao2, cap2, code, rfl, ⟨rfl, hc⟩, hO1, hb1⟩
    have tc : ((code : Int) != 0) = true := by rw [bne_iff_ne]; omega
    have hR1 := (HR0.out.stay hb1).stay ((Below.refl _ _).alloc (Nat.le_refl _) (.cells #[.string word, .slice ao2 ps.length cap2] 61))
    obtain ⟨c0, c1, c2, c3, f0, f1, f2, f3⟩ := hR1.cells
    have HR1 := Hid.mk' hR1
    clear hb1 hR1 hO1 hc
    go_wp2
    refine bodyPost_ret (v := .tuple #[.agg #[.string ⟨#[]⟩, .string ⟨#[]⟩, .string ⟨#[]⟩, .slice none 0 0], .int .i64 (code : Int)]) (by simp [results, Tryz.results8, go_sem, c0, c1, c2, c3]) rfl ⟨by rw [HP.out]; rfl, ?_⟩
    first | exact HR1.out.below | exact below4 HR1.out.below _ _ _ _
  | inr xs =>
    have hfew := Fm.disp_few hdi
    rw [hdi] at HD hP
    have hP : Fm.partBy d t = Fm.partOf xs t := hP
    clear hdi
    go_enter Tryz.func8, Tryz.ntmps8
    go_wp2_with fail
    refine HD.out.mono ?_
    rintro e w1 ⟨word, ps, ao2, cap2, code, rfl, ⟨rfl, hps⟩, hO1, hb1⟩
    subst hps
    obtain ⟨n2, hn2⟩ : ∃ n2, ps.length = n2 := ⟨_, rfl⟩
    rw [hn2] at hO1
    rw [hn2]
    have hn8 : n2 ≤ 8 := by rw [← hn2, ← parL_length]; exact hfew.1
    have hvz : ∀ p ∈ ps, p.2.size ≤ 2000 := fun p hp => by
      have := hfew.2 (p.1.data.toList, p.2.data.toList) (List.mem_map.2 ⟨p, hp, rfl⟩)
      have h2 : p.2.data.toList.length ≤ d.1.length := this
      rw [Ch.len_list] at h2; omega
    have hbM : Below w1.heap.size w1 (w1.alloc (.cells #[.string word, .slice ao2 n2 cap2] 61)) := (Below.refl _ _).alloc (Nat.le_refl _) _
    have hR1 := (HR0.out.stay hb1).stay hbM
    have hM1 := heap_alloc_new w1 (.cells #[.string word, .slice ao2 n2 cap2] 61)
    have hV1 := hO1.isV.stay hbM
    have HGn := Hid.mk' (getP_any word ps ⟨#[110, 97, 109, 101]⟩ ao2 cap2 n2 _ hV1 hn2 (by omega) (fun p hp => by have := hvz p hp; omega))
    have HFn : Hid (∀ W, Below (w1.alloc (.cells #[.string word, .slice ao2 n2 cap2] 61)).heap.size (w1.alloc (.cells #[.string word, .slice ao2 n2 cap2] 61)) W → Calls Tryz.prog 26 #[.agg #[.string word, .slice ao2 n2 cap2]] W fun e w' => e = .returned (Fm.codedV (Fm.file (parL ps))) ∧ Below W.heap.size W w') := fun W hW => fileName_any word ps ao2 cap2 n2 W (hV1.stay hW) hn2 (by omega) (fun p hp => by have := hvz p hp; omega)
    have HR1 := Hid.mk' hR1; have HM1 := Hid.mk' hM1; have HP := Hid.mk' hP; have HVz := Hid.mk' hvz
    clear hb1 hO1 hn2 hvz hbM hR1 hM1 hV1 hP hfew HD
    generalize hW1 : (w1.alloc (.cells #[.string word, .slice ao2 n2 cap2] 61)) = W1 at *
    have m0 : W1.cell? ⟨w1.heap.size, 0, none⟩ = some (.string word) := cell_of_row W1 _ 0 _ _ _ HM1.out
    have m1 : W1.cell? ⟨w1.heap.size, 1, none⟩ = some (.slice ao2 n2 cap2) := cell_of_row W1 _ 1 _ _ _ HM1.out
    cases hnm : Pm_get ⟨#[110, 97, 109, 101]⟩ ps with
    | none =>
      have g1 : Fm.get Fm.nName (parL ps) = none := get_no hnm
      rw [hnm] at HGn
      have HPn : Hid (Fm.partBy d t = .inl 6) := by unfold Hid; rw [HP.out]; unfold Fm.partOf; rw [g1]
      clear hnm g1 HP HFn HTy
      go_wp2_with fail
      refine HGn.out.mono ?_
      rintro e w3 ⟨rfl, hb3⟩
      have hR3 := HR1.out.stay hb3
      obtain ⟨c0, c1, c2, c3, f0, f1, f2, f3⟩ := hR3.cells
      have HR3 := Hid.mk' hR3
      clear hb3 hR3 hW1 m0 m1
      go_wp2
      refine bodyPost_ret (v := .tuple #[.agg #[.string ⟨#[]⟩, .string ⟨#[]⟩, .string ⟨#[]⟩, .slice none 0 0], .int .i64 6]) (by simp [results, Tryz.results8, go_sem, c0, c1, c2, c3]) rfl ⟨by rw [HPn.out]; rfl, ?_⟩
      first | exact HR3.out.below | exact below4 HR3.out.below _ _ _ _
    | some x =>
      obtain ⟨g1, _⟩ := get_yes hnm
      have g1 : Fm.get Fm.nName (parL ps) = some x.data.toList := g1
      rw [hnm] at HGn
      cases hfl : Fm.file (parL ps) with
      | none =>
        rw [hfl] at HFn
        have HPn : Hid (Fm.partBy d t = .inl 5) := by unfold Hid; rw [HP.out]; unfold Fm.partOf; rw [g1, hfl]
        clear hnm g1 HP HTy hfl
        go_wp2_with fail
        refine HGn.out.mono ?_
        rintro e w3 ⟨rfl, hb3⟩
        have HB3 := Hid.mk' hb3
        have hM3 := box_stay HM1.out hb3
        have n0 : w3.cell? ⟨w1.heap.size, 0, none⟩ = some (.string word) := cell_of_row w3 _ 0 _ _ _ hM3
        have n1 : w3.cell? ⟨w1.heap.size, 1, none⟩ = some (.slice ao2 n2 cap2) := cell_of_row w3 _ 1 _ _ _ hM3
        clear hb3 hM3 m0 m1 hW1
        go_wp2_with fail
        refine (HFn.out w3 HB3.out).mono ?_
        rintro e w4 ⟨rfl, hb4⟩
        unfold Fm.codedV
        have hR4 := (HR1.out.stay HB3.out).stay hb4
        obtain ⟨c0, c1, c2, c3, f0, f1, f2, f3⟩ := hR4.cells
        have HR4 := Hid.mk' hR4
        clear hb4 hR4 n0 n1
        go_wp2
        refine bodyPost_ret (v := .tuple #[.agg #[.string ⟨#[]⟩, .string ⟨#[]⟩, .string ⟨#[]⟩, .slice none 0 0], .int .i64 5]) (by simp [results, Tryz.results8, go_sem, c0, c1, c2, c3]) rfl ⟨by rw [HPn.out]; rfl, ?_⟩
        first | exact HR4.out.below | exact below4 HR4.out.below _ _ _ _
      | some f =>
        rw [hfl] at HFn
        have hP2 : Fm.partBy d t = if t.2 = 9 then .inl 9 else .inr ⟨x.data.toList, f, t.1⟩ := by rw [HP.out]; unfold Fm.partOf; rw [g1, hfl]
        clear hnm g1 HP hfl
        by_cases h9 : t.2 = 9
        · rw [if_pos h9] at hP2
          have HPn := Hid.mk' hP2
          have t9 : ((t.2 : Int) == 9) = true := by rw [h9]; rfl
          have HT9 := Hid.mk' h9
          clear hP2 h9
          go_wp2_with fail
          refine HGn.out.mono ?_
          rintro e w3 ⟨rfl, hb3⟩
          have HB3 := Hid.mk' hb3
          have hM3 := box_stay HM1.out hb3
          have n0 : w3.cell? ⟨w1.heap.size, 0, none⟩ = some (.string word) := cell_of_row w3 _ 0 _ _ _ hM3
          have n1 : w3.cell? ⟨w1.heap.size, 1, none⟩ = some (.slice ao2 n2 cap2) := cell_of_row w3 _ 1 _ _ _ hM3
          clear hb3 hM3 m0 m1 hW1
          go_wp2_with fail
          refine (HFn.out w3 HB3.out).mono ?_
          rintro e w4 ⟨rfl, hb4⟩
          unfold Fm.codedV
          have HR4 := Hid.mk' ((HR1.out.stay HB3.out).stay hb4)
          clear hb4 n0 n1
          go_wp2_with fail
          refine (HTy.out w4 HR4.out.below).mono ?_
          rintro e w5 ⟨rfl, hb5⟩
          have hR5 := HR4.out.stay hb5
          obtain ⟨c0, c1, c2, c3, f0, f1, f2, f3⟩ := hR5.cells
          have HR5 := Hid.mk' hR5
          clear hb5 hR5
          go_wp2
          refine bodyPost_ret (v := .tuple #[.agg #[.string ⟨#[]⟩, .string ⟨#[]⟩, .string ⟨#[]⟩, .slice none 0 0], .int .i64 (t.2 : Int)]) (by simp [results, Tryz.results8, go_sem, c0, c1, c2, c3]) rfl ⟨by rw [HPn.out, HT9.out]; rfl, ?_⟩
          first | exact HR5.out.below | exact below4 HR5.out.below _ _ _ _
        · rw [if_neg h9] at hP2
          have HPn := Hid.mk' hP2
          have t9 : ((t.2 : Int) == 9) = false := by rw [beq_eq_false_iff_ne]; omega
          clear hP2 h9
          go_wp2_with fail
          refine HGn.out.mono ?_
          rintro e w3 ⟨rfl, hb3⟩
          have HB3 := Hid.mk' hb3
          have hM3 := box_stay HM1.out hb3
          have n0 : w3.cell? ⟨w1.heap.size, 0, none⟩ = some (.string word) := cell_of_row w3 _ 0 _ _ _ hM3
          have n1 : w3.cell? ⟨w1.heap.size, 1, none⟩ = some (.slice ao2 n2 cap2) := cell_of_row w3 _ 1 _ _ _ hM3
          clear hb3 hM3 m0 m1 hW1
          go_wp2_with fail
          refine (HFn.out w3 HB3.out).mono ?_
          rintro e w4 ⟨rfl, hb4⟩
          unfold Fm.codedV
          have HR4 := Hid.mk' ((HR1.out.stay HB3.out).stay hb4)
          clear hb4 n0 n1
          go_wp2_with fail
          refine (HTy.out w4 HR4.out.below).mono ?_
          rintro e w5 ⟨rfl, hb5⟩
          have hR5 := HR4.out.stay hb5
          obtain ⟨c0, c1, c2, c3, f0, f1, f2, f3⟩ := hR5.cells
          have HR5 := Hid.mk' hR5
          clear hb5 hR5
          go_wp2
          refine bodyPost_ret (v := .tuple #[.agg #[.string x, .string ⟨f.toArray⟩, .string ⟨t.1.toArray⟩, .slice none 0 0], .int .i64 0]) (by simp [results, Tryz.results8, go_sem, c0, c1, c2, c3]) rfl ⟨by rw [HPn.out]; unfold Fm.partV; simp only [], ?_⟩
          exact below4 HR5.out.below _ _ _ _
/-- Part, by plain fields -/
theorem part_any (l : List (ByteArray × ByteArray)) (ao : Option Addr) (cap n : Nat) (w : World) (hl : IsV w ao cap n (pairV l)) (hn : l.length = n) (hN : n ≤ 1000) (hz : ∀ p ∈ l, p.1.size ≤ 2000 ∧ p.2.size ≤ 2000) :
    Calls Tryz.prog 8 #[.slice ao n cap] w fun e w' => e = .returned (Fm.partV (Fm.part (Rq.flB l))) ∧ Below w.heap.size w w' := by
  have h := part_by l ao cap n w hl hn hN hz
  rw [one_is bDispo ⟨Fm.nDisp.toArray⟩ l (by decide) (by decide), one_is bType ⟨Fm.nType.toArray⟩ l (by decide) (by decide)] at h
  exact h
end Go.Proofs.YtjpenioloeplgadGreatDoor
