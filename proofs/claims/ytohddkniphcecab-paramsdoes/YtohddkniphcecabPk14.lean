/- Small texts, one behind the other: RfTokT, RfMTxA, PmTxC, RfParam. -/
import Derived.Test.YtohddkniphcecabPk8
import Derived.Test.YtohddkniphcecabPk11
import Derived.Test.YtohddkniphcecabPk6
import Derived.Test.YtohddkniphcecabPk2
import Derived.Test.YtohddkniphcecabPk13
import Derived.Test.YtohddkniphcecabPk9
import Derived.Deep.RegionHeld3
import Derived.Deep.DeepCutAuto
import Derived.Test.YtohddkniphcecabPk12
import Derived.Test.YtohddkniphcecabProg
/- The document's own answer, walked: TokenText. -/
namespace Go.Proofs.Ytohddkniphcecab
open Go.RowKit

set_option maxHeartbeats 400000 in
theorem tokenText_any (s : ByteArray) (w : World) (hs : s.size ≤ maxLen) :
    Calls Try.prog 27 #[.string s] w fun e w' => e = .returned (.bool (Ch.isToken s.data.toList)) ∧ w' = w := by
  unfold maxLen at hs
  go_enter Try.func27, Try.ntmps27
  go_wp2
  go_loop [3] (fun i => ∃ k : Nat, k ≤ s.size ∧ i = .int .i64 k ∧ ((s.data.toList.take k).all fun b => Ch.token b.toNat) = true) (fun i => s.size - (intOf i).toNat)
  case atStart => exact ⟨0, Nat.zero_le _, rfl, rfl⟩
  case round =>
    obtain ⟨k, hk, rfl, hno⟩ := hrel
    have HN : Hid (((s.data.toList.take k).all fun b => Ch.token b.toNat) = true) := hno
    clear hno
    by_cases hlt : k < s.size
    · have hb := s[k].toNat_lt
      cases he : Ch.token (s[k].toNat : Int)
      · have HE : Hid (Ch.token (s[k].toNat : Int) = false) := he
        go_wp2_with (go_at_call 40; refine (isTokenByte_any _ _ (by omega) (by omega)).mono ?_; rintro e w' ⟨rfl, rfl⟩)
        go_ret
        refine ⟨ret_bool ?_, rfl⟩
        unfold Ch.isToken
        rw [Ch.all_of_take (fun b => Ch.token b.toNat) s k hlt HE.out]; simp
      · have HE : Hid (Ch.token (s[k].toNat : Int) = true) := he
        go_wp2_with (go_at_call 40; refine (isTokenByte_any _ _ (by omega) (by omega)).mono ?_; rintro e w' ⟨rfl, rfl⟩)
        go_round
        case rel => exact ⟨k + 1, by omega, by go_num, by rw [Ch.take_snoc s k hlt, Ch.all_snoc, HN.out, HE.out]; rfl⟩
        case measure => simp [intOf]; omega
    · go_wp2
      go_ret
      refine ⟨ret_bool ?_, rfl⟩
      have h : ((s.data.toList).all fun b => Ch.token b.toNat) = true := by rw [← HN.out, Ch.take_all s k (by omega)]
      unfold Ch.isToken
      rw [h]
      by_cases hz : s.size = 0
      · obtain rfl := Ch.empty_eq s hz
        rfl
      · rw [← Lib.toList_data, Ch.isEmpty_false s (by omega)]
        simp; omega
end Go.Proofs.Ytohddkniphcecab

/- The document's own answer: MediaText: what lies in memory while it runs. -/
namespace Go.Proofs.Ytohddkniphcecab
open Go.RowKit

/-- what is answered: a text, or a code -/
def MTxt (m : Nat ⊕ List UInt8) (e : Ending) : Prop :=
  ∃ (x : ByteArray) (code : Nat), e = .returned (.tuple #[.string x, .int .i64 (code : Int)]) ∧ match m with
    | .inl c => code = c ∧ x = ⟨#[]⟩
    | .inr t => code = 0 ∧ x.data.toList = t
theorem MTxt.bad {m : Nat ⊕ List UInt8} {c : Nat} (hm : m = .inl c) : MTxt m (.returned (.tuple #[.string ⟨#[]⟩, .int .i64 (c : Int)])) := by
  subst hm; exact ⟨_, c, rfl, rfl, rfl⟩
theorem MTxt.good {m : Nat ⊕ List UInt8} {x : ByteArray} (hm : m = .inr x.data.toList) : MTxt m (.returned (.tuple #[.string x, .int .i64 0])) := by
  subst hm; exact ⟨x, 0, rfl, rfl, rfl⟩
/-- the value in its box -/
structure BoxM (w : World) (wd : ByteArray) (ao : Option Addr) (n cap : Nat) (wr : World) : Prop where
  box : wr.heap[w.heap.size]? = some (.cells #[.string wd, .slice ao n cap] 24 (0, 0))
  below : Below w.heap.size w wr
section
variable {w wr w' : World} {wd : ByteArray} {ao : Option Addr} {n cap : Nat}
theorem BoxM.size (h : BoxM w wd ao n cap wr) : w.heap.size < wr.heap.size := (Array.getElem?_eq_some_iff.1 h.box).1
theorem BoxM.keep (h : BoxM w wd ao n cap wr) (hb : Below wr.heap.size wr w') : BoxM w wd ao n cap w' := by
  have hs := h.size
  exact ⟨(hb.block _ hs).trans h.box, h.below.trans (hb.mono (by omega))⟩
theorem BoxM.drewN (h : BoxM w wd ao n cap wr) (q : Nat) : BoxM w wd ao n cap (wr.drewN q) := h.keep ⟨rfl, rfl, rfl, Nat.le_refl _, fun _ _ => rfl⟩
theorem BoxM.start (w : World) (wd : ByteArray) (ao : Option Addr) (n cap : Nat) : BoxM w wd ao n cap (w.alloc (.cells #[.string wd, .slice ao n cap] 24)) := ⟨heap_alloc_new w _, (Below.refl _ _).alloc (Nat.le_refl _) _⟩
theorem BoxM.cells (h : BoxM w wd ao n cap wr) : wr.cell? ⟨w.heap.size, 0, none⟩ = some (.string wd) ∧ wr.cell? ⟨w.heap.size, 1, none⟩ = some (.slice ao n cap) := ⟨cell_of_row wr _ 0 _ _ _ h.box, cell_of_row wr _ 1 _ _ _ h.box⟩
/-- beside it a parameter, at block q -/
structure BoxP (w : World) (wd : ByteArray) (ao : Option Addr) (n cap q : Nat) (nm v : ByteArray) (wr : World) : Prop where
  box : BoxM w wd ao n cap wr
  par : wr.heap[q]? = some (.cells #[.string nm, .string v] 37 (0, 0))
variable {q : Nat} {nm v : ByteArray}
theorem BoxP.start (h : BoxM w wd ao n cap wr) (nm v : ByteArray) : BoxP w wd ao n cap wr.heap.size nm v (wr.alloc (.cells #[.string nm, .string v] 37)) :=
  ⟨h.keep ((Below.refl _ _).alloc (Nat.le_refl _) _), heap_alloc_new wr _⟩
theorem BoxP.keep (h : BoxP w wd ao n cap q nm v wr) (hb : Below wr.heap.size wr w') : BoxP w wd ao n cap q nm v w' :=
  ⟨h.box.keep hb, (hb.block _ (Array.getElem?_eq_some_iff.1 h.par).1).trans h.par⟩
theorem BoxP.drewN (h : BoxP w wd ao n cap q nm v wr) (z : Nat) : BoxP w wd ao n cap q nm v (wr.drewN z) := h.keep ⟨rfl, rfl, rfl, Nat.le_refl _, fun _ _ => rfl⟩
theorem BoxP.cells (h : BoxP w wd ao n cap q nm v wr) : wr.cell? ⟨q, 0, none⟩ = some (.string nm) ∧ wr.cell? ⟨q, 1, none⟩ = some (.string v) := ⟨cell_of_row wr _ 0 _ _ _ h.par, cell_of_row wr _ 1 _ _ _ h.par⟩
end
end Go.Proofs.Ytohddkniphcecab

/- Package params, walked: Text. -/
namespace Go.Proofs.Ytohddkniphcecab
open Go.RowKit

theorem txt_chk (acc : List UInt8) (L : List Pm.Par) (k : Nat) (hk : k < L.length) : Pm.txt acc (L.take k) (L.drop k) =
    if Pm.chk L[k].1 L[k].2 (L.take k) = 0 then Pm.txt (acc ++ Pm.one L[k]) (L.take (k + 1)) (L.drop (k + 1)) else .inl (Pm.chk L[k].1 L[k].2 (L.take k)) := by
  rw [Pm.txt_at acc L k hk]
  unfold Pm.chk
  by_cases h1 : Ch.isToken L[k].1 = false ∨ Ch.lower L[k].1 ≠ L[k].1
  · rw [if_pos h1, if_pos h1, if_neg (by decide)]
  · rw [if_neg h1, if_neg h1]
    by_cases h2 : ((L.take k).any fun q => q.1 == L[k].1) = true
    · rw [if_pos h2, if_pos h2, if_neg (by decide)]
    · rw [if_neg h2, if_neg h2]
      by_cases h3 : Ch.isVisible L[k].2 = false
      · rw [if_pos h3, if_pos h3, if_neg (by decide)]
      · rw [if_neg h3, if_neg h3, if_pos rfl]
theorem one_val (p : Pm.Par) : Pm.one p = [59, 32] ++ p.1 ++ [61] ++ Pm.valT p.2 := rfl
theorem BoxM.turns {S : Nat → Prop} {w wr w' : World} {wd : ByteArray} {ao : Option Addr} {n cap : Nat} (h : BoxM w wd ao n cap wr) (ht : Turns S wr w') (hS : ∀ k, S k → w.heap.size + 1 ≤ k) : BoxM w wd ao n cap w' := by
  have hs := h.size
  exact ⟨ht.row h.box (fun e => by have := hS _ e; omega), h.below.trans (ht.below (fun k e => by have := hS k e; omega) (by omega))⟩
theorem Buf.mono {w : World} {base base' g cap : Nat} {l : List UInt8} (h : Buf w base g cap l) (hb : base' ≤ base) : Buf w base' g cap l := ⟨Nat.le_trans hb h.base_, h.lt, h.le, h.max, h.holds, h.there⟩
theorem IsV.few {w : World} {ao : Option Addr} {cap n k : Nat} {l : List (ByteArray × ByteArray)} (h : IsV w ao cap n (pairV l)) (hk : k ≤ n) : IsV w ao cap k (pairV (l.take k)) := by
  refine ⟨Nat.le_trans hk h.1, h.2.1, fun j u hj => h.2.2 j u ?_⟩
  have e : pairV l = pairV (l.take k) ++ pairV (l.drop k) := by rw [← pairV_append, List.take_append_drop]
  rw [e, List.getElem?_append_left (List.getElem?_eq_some_iff.1 hj).1]
  exact hj
theorem parL_take (l : List (ByteArray × ByteArray)) (k : Nat) : parL (l.take k) = (parL l).take k := by simp [parL, List.map_take]
theorem parL_at (l : List (ByteArray × ByteArray)) (k : Nat) (h : k < l.length) : (parL l)[k]'(by rw [parL_length]; exact h) = (l[k].1.data.toList, l[k].2.data.toList) := by simp [parL]

set_option maxRecDepth 100000 in
set_option maxHeartbeats 3200000 in
theorem textP_any (wd : ByteArray) (l : List (ByteArray × ByteArray)) (ao : Option Addr) (cap n : Nat) (w : World) (hl : IsV w ao cap n (pairV l)) (hn : l.length = n) (hN : n ≤ 1000000) (hwz : wd.size ≤ 2000) (hpz : ∀ p ∈ l, p.1.size ≤ 2000 ∧ p.2.size ≤ 2000) :
    Calls Try.prog 9 #[.agg #[.string wd, .slice ao n cap]] w fun e w' => MTxt (Pm.text wd.data.toList (parL l)) e ∧ Below w.heap.size w w' := by
  subst hn
  have HIs := Hid.mk' hl
  have HZ := Hid.mk' hpz
  have hcap := hl.1
  have HB0 := Hid.mk' (BoxM.start w wd ao l.length cap)
  have HW := Hid.mk' (fun W => isWord_any wd W hwz)
  have HS := Hid.mk' (fun W => isSmall_any wd W (by unfold maxLen; omega))
  have hT : Pm.text wd.data.toList (parL l) = if Pm.wordOk wd.data.toList = false then .inl 5 else if 8 < (parL l).length then .inl 8 else Pm.txt wd.data.toList [] (parL l) := rfl
  rw [Pm.wordOk_two, parL_length] at hT
  have HT := Hid.mk' hT
  clear hl hpz hT
  have w0 := HB0.out.cells.1
  cases hw2 : Pm.wordTwo wd.data.toList
  · rw [hw2] at HW HT
    have HR : Hid (Pm.text wd.data.toList (parL l) = .inl 5) := by have := HT.out; rw [Bool.and_false, if_pos rfl] at this; exact this
    clear HT hw2
    go_enter Try.func9, Try.ntmps9
    go_wp2_with fail
    refine (HW.out _).mono ?_
    rintro e w1 ⟨rfl, q, hw⟩
    have HB1 : Hid (BoxM w wd ao l.length cap w1) := by rw [hw]; exact HB0.out.drewN q
    clear hw
    go_wp2
    go_ret2
    exact ⟨MTxt.bad HR.out, HB1.out.below⟩
  rw [hw2] at HW HT
  by_cases hlo : Ch.lower wd.data.toList = wd.data.toList
  rotate_left
  · rw [decide_eq_false hlo] at HS HT
    have HR : Hid (Pm.text wd.data.toList (parL l) = .inl 5) := by have := HT.out; rw [Bool.false_and, if_pos rfl] at this; exact this
    clear HT hw2 hlo
    go_enter Try.func9, Try.ntmps9
    go_wp2_with fail
    refine (HW.out _).mono ?_
    rintro e w1 ⟨rfl, q, hw⟩
    have HB1 : Hid (BoxM w wd ao l.length cap w1) := by rw [hw]; exact HB0.out.drewN q
    clear hw
    have c0 := HB1.out.cells.1
    go_wp2_with fail
    refine (HS.out _).mono ?_
    rintro e w2 ⟨rfl, b2⟩
    have HB2 := Hid.mk' (HB1.out.keep b2)
    clear b2
    go_wp2
    go_ret2
    exact ⟨MTxt.bad HR.out, HB2.out.below⟩
  rw [decide_eq_true hlo] at HS HT
  have hT := HT.out
  rw [if_neg (by simp)] at hT
  clear hw2 hlo HT
  go_enter Try.func9, Try.ntmps9
  go_wp2_with fail
  refine (HW.out _).mono ?_
  rintro e w1 ⟨rfl, q, hw⟩
  have HB1 : Hid (BoxM w wd ao l.length cap w1) := by rw [hw]; exact HB0.out.drewN q
  clear hw
  have c0 := HB1.out.cells.1
  go_wp2_with fail
  refine (HS.out _).mono ?_
  rintro e w2 ⟨rfl, b2⟩
  have HB2 := Hid.mk' (HB1.out.keep b2)
  clear b2 c0 HB1 HB0 w0 HW HS
  obtain ⟨c0, c1⟩ := HB2.out.cells
  by_cases h8 : 8 < l.length
  · rw [if_pos h8] at hT
    have HR := Hid.mk' hT
    have t8 : decide ((l.length : Int) > 8) = true := by rw [decide_eq_true_eq]; omega
    clear hT
    go_wp2
    go_ret2
    exact ⟨MTxt.bad HR.out, HB2.out.below⟩
  rw [if_neg h8] at hT
  have HT := Hid.mk' hT
  clear hT
  have t8 : decide ((l.length : Int) > 8) = false := by rw [decide_eq_false_iff_not]; omega
  obtain ⟨cap1, w3, hconv, b3, hbuf⟩ := buf_of (P := Try.prog) w2 wd 9 45 5 (by unfold maxLen; omega) Try.underlying9 Try.underlying45 Try.underlying5
  have HB3 := Hid.mk' (HB2.out.keep b3)
  have HU3 := Hid.mk' (hbuf.mono (base' := w.heap.size + 1) HB2.out.size)
  obtain ⟨i0, hi0, hz0, hz1, hz2⟩ := info_parts info_u8
  have Hi := Hid.mk' hi0; have Hz0 := Hid.mk' hz0; have Hz1 := Hid.mk' hz1; have Hz2 := Hid.mk' hz2
  clear hi0 hz0 hz1 hz2 b3 hbuf
  have c3 := HB3.out.cells.2
  go_wp2
  go_loopw [4, 30] (fun b t wr => ∃ (k g cap' m : Nat) (acc : List UInt8), k ≤ l.length ∧ t = .int .i64 k ∧ b = .slice (some ⟨g, 0, none⟩) m cap' ∧ m = acc.length ∧ m ≤ 2000 + k * 7000 ∧ BoxM w wd ao l.length cap wr ∧ Buf wr (w.heap.size + 1) g cap' acc ∧ Pm.text wd.data.toList (parL l) = Pm.txt acc ((parL l).take k) ((parL l).drop k)) (fun _ t _ => l.length - (intOf t).toNat)
  case atStart => exact ⟨0, w2.heap.size, cap1, wd.size, wd.data.toList, Nat.zero_le _, rfl, rfl, (Ch.len_list wd).symm, by omega, HB3.out, HU3.out, HT.out⟩
  case round =>
    clear HB3 HU3 HB2 c0 c1 c3 hconv HT
    obtain ⟨k, g, cap2, m, acc, hk, rfl, rfl, hm, hmz, hB, hU, hX⟩ := hrel
    have HB := Hid.mk' hB
    have HU := Hid.mk' hU
    have HX := Hid.mk' hX
    have HM := Hid.mk' hm.symm
    clear hB hU hX hm
    by_cases hlt : k < l.length
    · obtain ⟨bb, oo, rfl, hcs⟩ := (HIs.out.stay HB.out.below).lit (by rw [pairV_length]; omega)
      have hc0 := hcs _ _ (pairV_at l k hlt).1
      have hc1 : wr.cell? ⟨bb, oo + k * 2 + 1, none⟩ = some (.string l[k].2) := by
        have := hcs _ _ (pairV_at l k hlt).2
        rwa [← Nat.add_assoc] at this
      clear hcs
      have hlt' : (k : Int) < l.length := by omega
      have hz := HZ.out l[k] (List.getElem_mem hlt)
      have hX := HX.out
      rw [txt_chk acc (parL l) k (by rw [parL_length]; exact hlt), parL_at l k hlt, ← parL_take] at hX
      have hI0 := (HIs.out.stay HB.out.below).few (k := k) (by omega)
      have hBp : Below wr.heap.size wr (wr.alloc (.cells #[.string l[k].1, .string l[k].2] 37)) := (Below.refl _ _).alloc (Nat.le_refl _) _
      have HPb : Hid ((wr.alloc (.cells #[.string l[k].1, .string l[k].2] 37)).heap[wr.heap.size]? = some (.cells #[.string l[k].1, .string l[k].2] 37 (0, 0))) := heap_alloc_new wr _
      have HI := Hid.mk' (hI0.stay hBp)
      have HBa := Hid.mk' (HB.out.keep hBp)
      have HUa := Hid.mk' (HU.out.keep hBp)
      have hgl := HU.out.lt
      have HCk := Hid.mk' (fun W (hW : IsV W (some ⟨bb, oo, none⟩) cap k (pairV (l.take k))) => check_any l[k].1 l[k].2 (l.take k) (some ⟨bb, oo, none⟩) cap k W hW (by rw [List.length_take]; omega) (by omega) hz.1 hz.2)
      have hck : k ≤ cap := by omega
      have hck' : (k : Int) ≤ cap := by omega
      clear hI0 hBp HX
      generalize hch : Pm.chk l[k].1.data.toList l[k].2.data.toList (parL (l.take k)) = c at *
      have hO := one_val (l[k].1.data.toList, l[k].2.data.toList)
      simp only [] at hO hX
      clear hch
      generalize l[k] = p at *
      have p0 : (wr.alloc (.cells #[.string p.1, .string p.2] 37)).cell? ⟨wr.heap.size, 0, none⟩ = some (.string p.1) := cell_of_row _ _ 0 _ _ _ HPb.out
      have p1 : (wr.alloc (.cells #[.string p.1, .string p.2] 37)).cell? ⟨wr.heap.size, 1, none⟩ = some (.string p.2) := cell_of_row _ _ 1 _ _ _ HPb.out
      have m1 := HBa.out.cells.2
      have HX := Hid.mk' hX
      have HO := Hid.mk' hO
      clear hX hO
      go_wp2
      go_region_held3 (fun w' => w'.cell? ⟨wr.heap.size, 0, none⟩ = some (.string p.1) ∧ w'.cell? ⟨wr.heap.size, 1, none⟩ = some (.string p.2) ∧ w'.cell? ⟨w.heap.size, 1, none⟩ = some (.slice (some ⟨bb, oo, none⟩) l.length cap)) (go_keep) (first | (go_at_call 24; refine (HCk.out _ (HI.out.stay (below_drew _ _))).mono ?_; rintro e w5 ⟨rfl, hB5⟩; have hb5 := then_ (below_drew _ _) hB5; have HB5 := Hid.mk' (HBa.out.keep hb5); have HU5 := Hid.mk' (HUa.out.keep hb5); have HP5 := Hid.mk' ((hb5.block _ (Array.getElem?_eq_some_iff.1 HPb.out).1).trans HPb.out); have q0 : w5.cell? ⟨wr.heap.size, 0, none⟩ = some (.string p.1) := cell_of_row _ _ 0 _ _ _ HP5.out; have q1 : w5.cell? ⟨wr.heap.size, 1, none⟩ = some (.string p.2) := cell_of_row _ _ 1 _ _ _ HP5.out; have n1 := HB5.out.cells.2; clear hB5 hb5))
      all_goals
        clear p0 p1 m1 HBa HUa HI HPb hc0 hc1 HCk
        by_cases hcz : c = 0
        · have hX := HX.out
          rw [if_pos hcz] at hX
          subst hcz
          have HX2 := Hid.mk' hX
          clear hX HX
          have hxs : (⟨#[59, 32]⟩ ++ p.1 ++ ⟨#[61]⟩ : ByteArray).size = p.1.size + 3 := by
            rw [ByteArray.size_append, ByteArray.size_append]; show 2 + p.1.size + 1 = p.1.size + 3; omega
          have HXs := Hid.mk' hxs
          have HXd : Hid ((⟨#[59, 32]⟩ ++ p.1 ++ ⟨#[61]⟩ : ByteArray).data.toList = [59, 32] ++ p.1.data.toList ++ [61]) := by
            unfold Hid; rw [Ch.data_append, Ch.data_append]
          have hvl : (Pm.valT p.2.data.toList).length ≤ 2 * p.2.size + 2 := by
            have := Pm.esc_length p.2.data.toList
            rw [Ch.len_list] at this
            unfold Pm.valT
            split
            · rw [Ch.len_list]; omega
            · simp; omega
          clear hxs
          go_wp2_with (at_builtin; refine wpList_append_buf rfl (.tmp 44) (.tmp 48) 45 9 rfl 5 i0 Try.underlying45 Hi.out Hz0.out Hz1.out Hz2.out rfl HU5.out HM.out _ _ rfl (src_text Try.underlying9 _ _) (by rw [HXs.out]; omega) ?_; intro g6 cap6 w6 hU6 hT6; have HU6 := Hid.mk' hU6; have HB6 := Hid.mk' (HB5.out.turns hT6 (fun k e => by rw [e]; exact HU5.out.base_)); have HP6 := Hid.mk' (hT6.row HP5.out (by omega)); have r1 : w6.cell? ⟨wr.heap.size, 1, none⟩ = some (.string p.2) := cell_of_row _ _ 1 _ _ _ HP6.out; clear hU6 hT6)
          have hlen : (acc ++ (⟨#[59, 32]⟩ ++ p.1 ++ ⟨#[61]⟩ : ByteArray).data.toList).length = m + (2 + p.1.size + 1) := by rw [List.length_append, HM.out, Ch.len_list, HXs.out]; omega
          refine (appendValue_any p.2 (w.heap.size + 1) g6 cap6 _ _ w6 HU6.out hlen (by omega) hz.2).mono ?_
          rintro e w7 ⟨g7, cap7, rfl, hU7, hT7⟩
          have HU7 := Hid.mk' hU7
          have HB7 := Hid.mk' (HB6.out.turns hT7 (fun k e => e))
          have HLn := Hid.mk' hlen
          clear hU7 hT7 hlen
          go_wp2
          go_roundw
          case rel =>
            have e : acc ++ (⟨#[59, 32]⟩ ++ p.1 ++ ⟨#[61]⟩ : ByteArray).data.toList ++ Pm.valT p.2.data.toList = acc ++ Pm.one (p.1.data.toList, p.2.data.toList) := by
              rw [HO.out, HXd.out]; simp
            refine ⟨k + 1, g7, cap7, _, acc ++ Pm.one (p.1.data.toList, p.2.data.toList), by omega, by go_num, rfl, by have hm := HM.out; rw [← e, List.length_append, HLn.out]; omega, ?_, HB7.out, by rw [← e]; exact HU7.out, HX2.out⟩
            have hm := HM.out
            omega
          case measure => simp [intOf]; omega
        · have hX := HX.out
          rw [if_neg hcz] at hX
          have HR := Hid.mk' hX
          have t0 : ((c : Int) != 0) = true := by rw [bne_iff_ne]; omega
          clear hX HX
          go_wp2
          go_ret2
          exact ⟨MTxt.bad HR.out, HB5.out.below⟩
    · obtain rfl : k = l.length := by omega
      have HR : Hid (Pm.text wd.data.toList (parL l) = .inr acc) := by
        have := HX.out
        rw [← parL_length l, Pm.txt_end] at this
        exact this
      have hconv := HU.out.isB.str (P := Try.prog) 45 9 5 Try.underlying45 Try.underlying5 Try.underlying9
      rw [HM.out] at hconv
      clear HX
      go_wp2
      go_ret2
      exact ⟨MTxt.good (x := ⟨acc.toArray⟩) HR.out, HB.out.below⟩
end Go.Proofs.Ytohddkniphcecab

/- The document's own answer, walked: ParamOf, SameMedia. -/
namespace Go.Proofs.Ytohddkniphcecab
open Go.RowKit

/-- the value of a name's parameter -/
def Pm_get (name : ByteArray) : List (ByteArray × ByteArray) → Option ByteArray
  | [] => none
  | p :: t => if p.1.data.toList = name.data.toList then some p.2 else Pm_get name t
theorem Pm_get_none {name : ByteArray} {l : List (ByteArray × ByteArray)} (h : ∀ p ∈ l, p.1.data.toList ≠ name.data.toList) : Pm_get name l = none := by
  induction l with
  | nil => rfl
  | cons p t ih =>
    unfold Pm_get
    rw [if_neg (h p (List.mem_cons_self ..))]
    exact ih (fun q hq => h q (List.mem_cons_of_mem _ hq))
theorem Pm_get_at {name : ByteArray} {l : List (ByteArray × ByteArray)} {k : Nat} (hk : k < l.length) (h : ∀ p ∈ l.take k, p.1.data.toList ≠ name.data.toList) (he : l[k].1.data.toList = name.data.toList) : Pm_get name l = some l[k].2 := by
  induction l generalizing k with
  | nil => simp at hk
  | cons p t ih =>
    cases k with
    | zero => unfold Pm_get; rw [if_pos (show p.1.data.toList = name.data.toList from he)]; rfl
    | succ k =>
      unfold Pm_get
      rw [if_neg (h p (by simp))]
      have := ih (k := k) (by simpa using hk) (fun q hq => h q (by simp [hq])) (by simpa using he)
      simpa using this
theorem text_eq (a b : ByteArray) : (a.toList == b.toList) = decide (a.data.toList = b.data.toList) := by
  rw [Lib.toList_data, Lib.toList_data, Bool.eq_iff_iff]; simp

set_option maxHeartbeats 1600000 in
theorem paramOf_any (word : ByteArray) (l : List (ByteArray × ByteArray)) (name : ByteArray) (ao : Option Addr) (cap n : Nat) (w : World) (hl : IsV w ao cap n (pairV l)) (hn : l.length = n) (hN : n ≤ 1000000) :
    Calls Try.prog 12 #[.agg #[.string word, .slice ao n cap], .string name] w fun e w' => e = .returned (.tuple #[.string ((Pm_get name l).getD ⟨#[]⟩), .bool (Pm_get name l).isSome]) ∧ Below w.heap.size w w' := by
  subst hn
  have H := Hid.mk' (hl.alloc (.cells #[.string word, .slice ao l.length cap] 24))
  clear hl
  have hB : Below w.heap.size w (w.alloc (.cells #[.string word, .slice ao l.length cap] 24)) := (Below.refl _ _).alloc (Nat.le_refl _) _
  go_enter Try.func12, Try.ntmps12
  go_wp2
  go_loop [6] (fun t => ∃ k : Nat, k ≤ l.length ∧ t = .int .i64 k ∧ ∀ p ∈ l.take k, p.1.data.toList ≠ name.data.toList) (fun t => l.length - (intOf t).toNat)
  case atStart => exact ⟨0, Nat.zero_le _, rfl, fun p hp => by simp at hp⟩
  case round =>
    obtain ⟨k, hk, rfl, hno⟩ := hrel
    have HN := Hid.mk' hno
    clear hno
    by_cases hlt : k < l.length
    · obtain ⟨bb, oo, rfl, hcs⟩ := H.out.lit (by rw [pairV_length]; omega)
      have hc0 := hcs _ _ (pairV_at l k hlt).1
      have hc1 := hcs _ _ (pairV_at l k hlt).2
      rw [← Nat.add_assoc] at hc1
      clear hcs
      have hlt' : (k : Int) < l.length := by omega
      have hx := text_eq l[k].1 name
      by_cases he : l[k].1.data.toList = name.data.toList
      · rw [decide_eq_true he] at hx
        have HR := Hid.mk' (Pm_get_at hlt HN.out he)
        clear he
        generalize l[k] = p at *
        go_wp2
        go_ret2
        exact ⟨by rw [HR.out]; rfl, hB⟩
      · rw [decide_eq_false he] at hx
        have HE := Hid.mk' he
        have HT : Hid (l.take (k + 1) = l.take k ++ [l[k]]) := List.take_succ_eq_append_getElem hlt
        clear he
        generalize l[k] = p at *
        go_wp2
        go_round
        case rel =>
          refine ⟨k + 1, by omega, by go_num, fun q hq => ?_⟩
          rw [HT.out, List.mem_append] at hq
          rcases hq with hq | hq
          · exact HN.out q hq
          · rw [List.mem_singleton] at hq; subst hq; exact HE.out
        case measure => simp [intOf]; omega
    · obtain rfl : k = l.length := by omega
      have HR : Hid (Pm_get name l = none) := Pm_get_none (fun p hp => HN.out p (by rw [List.take_length]; exact hp))
      go_wp2
      go_ret2
      exact ⟨by rw [HR.out]; rfl, hB⟩

theorem text_ne_of (a b : ByteArray) (h : a ≠ b) : (a.toList == b.toList) = false := by
  rw [text_eq, decide_eq_false_iff_not]
  intro e
  exact h (by cases a; cases b; simp at e; rw [e])

set_option maxHeartbeats 1600000 in
theorem sameMedia_any (w1 w2 : ByteArray) (l1 l2 : List (ByteArray × ByteArray)) (a1 a2 : Option Addr) (c1 c2 n1 n2 : Nat) (w : World) (h1 : IsV w a1 c1 n1 (pairV l1)) (hn1 : l1.length = n1) (h2 : IsV w a2 c2 n2 (pairV l2)) (hn2 : l2.length = n2) (hN : n1 ≤ 1000000) (hN2 : n2 ≤ 1000000) :
    Calls Try.prog 13 #[.agg #[.string w1, .slice a1 n1 c1], .agg #[.string w2, .slice a2 n2 c2]] w fun e w' => ∃ b : Bool, e = .returned (.bool b) ∧ (b = true ↔ w1 = w2 ∧ l1 = l2) ∧ Below w.heap.size w w' := by
  subst hn1; subst hn2
  have hB : Below w.heap.size w ((w.alloc (.cells #[.string w1, .slice a1 l1.length c1] 24)).alloc (.cells #[.string w2, .slice a2 l2.length c2] 24)) := ((Below.refl _ _).alloc (Nat.le_refl _) _).alloc (by simp) _
  by_cases hw : w1 = w2
  · subst hw
    have t1 : (w1.toList == w1.toList) = true := beq_self_eq_true _
    by_cases hl : l1.length = l2.length
    · have t2 : ((l1.length : Int) == l2.length) = true := by rw [beq_iff_eq]; omega
      have H1 := Hid.mk' ((h1.alloc (.cells #[.string w1, .slice a1 l1.length c1] 24)).alloc (.cells #[.string w1, .slice a2 l2.length c2] 24))
      have H2 := Hid.mk' ((h2.alloc (.cells #[.string w1, .slice a1 l1.length c1] 24)).alloc (.cells #[.string w1, .slice a2 l2.length c2] 24))
      have HL := Hid.mk' hl
      clear h1 h2 hl
      go_enter Try.func13, Try.ntmps13
      go_wp2
      go_loopw [5] (fun t wr => ∃ k q : Nat, k ≤ l1.length ∧ t = .int .i64 k ∧ wr = ((w.alloc (.cells #[.string w1, .slice a1 l1.length c1] 24)).alloc (.cells #[.string w1, .slice a2 l2.length c2] 24)).drewN q ∧ l1.take k = l2.take k) (fun t _ => l1.length - (intOf t).toNat)
      case atStart => exact ⟨0, 0, Nat.zero_le _, rfl, rfl, rfl⟩
      case round =>
        obtain ⟨k, q, hk, rfl, rfl, htk⟩ := hrel
        have HTk := Hid.mk' htk
        clear htk
        by_cases hlt : k < l1.length
        · have hlt2 : k < l2.length := by have := HL.out; omega
          obtain ⟨b1, o1, rfl, hcs1⟩ := H1.out.lit (by rw [pairV_length]; omega)
          obtain ⟨b2, o2, rfl, hcs2⟩ := H2.out.lit (by rw [pairV_length]; omega)
          have d0 := hcs1 _ _ (pairV_at l1 k hlt).1
          have d1 := hcs1 _ _ (pairV_at l1 k hlt).2
          have f0 := hcs2 _ _ (pairV_at l2 k hlt2).1
          have f1 := hcs2 _ _ (pairV_at l2 k hlt2).2
          rw [← Nat.add_assoc] at d1 f1
          clear hcs1 hcs2
          have e1 : (k : Int) < l1.length := by omega
          have e2 : (k : Int) < l2.length := by omega
          have HT1 : Hid (l1.take (k + 1) = l1.take k ++ [l1[k]]) := List.take_succ_eq_append_getElem hlt
          have HT2 : Hid (l2.take (k + 1) = l2.take k ++ [l2[k]]) := List.take_succ_eq_append_getElem hlt2
          have HG : Hid (l1[k] ≠ l2[k] → l1 ≠ l2) := fun hne e => hne (by subst e; rfl)
          have hne := fun W => neq_param l1[k].1 l1[k].2 l2[k].1 l2[k].2 W
          have hgu := guard_param
          generalize l1[k] = p1 at *
          generalize l2[k] = p2 at *
          by_cases he : p1 = p2
          · subst he
            have hq : (!((p1.1.toList == p1.1.toList) && (p1.2.toList == p1.2.toList))) = false := by rw [beq_self_eq_true, beq_self_eq_true]; rfl
            rw [hq] at hne
            go_wp2
            go_quiet (fail)
            go_wp2
            go_roundw
            case rel => exact ⟨k + 1, q + nq, by omega, by go_num, by simp, by rw [HT1.out, HT2.out, HTk.out]⟩
            case measure => simp [intOf]; omega
          · have hq : (!((p1.1.toList == p2.1.toList) && (p1.2.toList == p2.2.toList))) = true := by
              rw [Bool.not_eq_true', Bool.and_eq_false_iff]
              by_cases h1 : p1.1 = p2.1
              · exact Or.inr (text_ne_of _ _ (fun h2 => he (Prod.ext h1 h2)))
              · exact Or.inl (text_ne_of _ _ h1)
            rw [hq] at hne
            have HR := Hid.mk' (HG.out he)
            clear he
            go_wp2
            go_quiet (fail)
            go_wp2
            go_ret
            exact ⟨false, rfl, by simp [HR.out], hB.trans ⟨rfl, rfl, rfl, Nat.le_refl _, fun _ _ => rfl⟩⟩
        · obtain rfl : k = l1.length := by omega
          have HR : Hid (l1 = l2) := by
            have := HTk.out
            rw [List.take_length, HL.out, List.take_length] at this
            exact this
          go_wp2
          go_ret
          exact ⟨true, rfl, by simp [HR.out], hB.trans ⟨rfl, rfl, rfl, Nat.le_refl _, fun _ _ => rfl⟩⟩
    · have t2 : ((l1.length : Int) == l2.length) = false := by rw [beq_eq_false_iff_ne]; omega
      clear h1 h2
      go_enter Try.func13, Try.ntmps13
      go_wp2
      go_ret
      exact ⟨false, rfl, by simp; intro e; exact hl (by rw [e]), hB⟩
  · have t1 := text_ne_of w1 w2 hw
    clear h1 h2
    go_enter Try.func13, Try.ntmps13
    go_wp2
    go_ret
    exact ⟨false, rfl, by simp [hw], hB⟩
end Go.Proofs.Ytohddkniphcecab
