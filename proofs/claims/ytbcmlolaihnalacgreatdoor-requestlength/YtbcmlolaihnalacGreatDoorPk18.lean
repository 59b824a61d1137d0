/- Small texts, one behind the other: CsNum10, RqNum, CsLower, FdText. -/
import Derived.Test.YtbcmlolaihnalacGreatDoorPk8
import Derived.Test.YtbcmlolaihnalacGreatDoorPk13
import Derived.Test.YtbcmlolaihnalacGreatDoorPk4
import Derived.Test.YtbcmlolaihnalacGreatDoorPk6
import Derived.Test.YtbcmlolaihnalacGreatDoorPk7
import Derived.Test.YtbcmlolaihnalacGreatDoorPk9
import Derived.Test.YtbcmlolaihnalacGreatDoorPk10
import Derived.Test.YtbcmlolaihnalacGreatDoorPk1
import Derived.Deep.RegionHeld3
/- Package chars, walked: Number. -/
namespace Go.Proofs.YtbcmlolaihnalacGreatDoor
open Go.RowKit

set_option maxHeartbeats 400000 in
theorem number10_any (s : ByteArray) (w : World) (hs : s.size ≤ maxLen) :
    Calls Tryz.prog 113 #[.string s] w fun e w' => e = .returned (.tuple #[.int .i64 (Ch.number 10 9 s.data.toList).1, .bool (Ch.number 10 9 s.data.toList).2]) ∧ w' = w := by
  have h := number_any s 10 9 w hs (by decide) (by decide) (by decide) (by decide)
  generalize Ch.number 10 9 s.data.toList = p at h
  go_enter Tryz.func113, Tryz.ntmps113
  go_wp2_with (go_at_call 123; refine h.mono ?_; rintro e w' ⟨rfl, rfl⟩)
  go_ret2
  exact ⟨rfl, rfl⟩
end Go.Proofs.YtbcmlolaihnalacGreatDoor

/- Package request, walked: sameNumber. -/
namespace Go.Proofs.YtbcmlolaihnalacGreatDoor
open Go.RowKit

set_option maxRecDepth 100000 in
set_option maxHeartbeats 2000000 in
theorem sameNumber_any (vs : List ByteArray) (ao : Option Addr) (cap : Nat) (w : World) (hl : IsV w ao cap vs.length (strV vs)) (hN : vs.length ≤ 1000000) (hs : ∀ v ∈ vs, v.size ≤ 2000) :
    Calls Tryz.prog 98 #[.slice ao vs.length cap] w fun e w' => e = .returned (Rq.lenVal (Rq.sameNum (Rq.lists vs))) ∧ w' = w := by
  have HL := Hid.mk' hl; have HZs := Hid.mk' hs
  have HE : Hid (Rq.sameNum (Rq.lists vs) = match Rq.sizes ((Rq.lists vs).headD []) 0 (Rq.lists vs) with | .inl c => .inl c | .inr n => if 4000 < n then .inl 4 else .inr n) := rfl
  generalize Rq.sameNum (Rq.lists vs) = RES at HE ⊢
  clear hl hs
  go_enter Tryz.func98, Tryz.ntmps98
  go_wp2
  go_loopw [4, 11] (fun vn vi wr => ∃ (i : Nat) (n : Int), i ≤ vs.length ∧ vi = .int .i64 i ∧ vn = .int .i64 n ∧ 0 ≤ n ∧ n < 68719476736 ∧ Rq.sizes ((Rq.lists vs).headD []) 0 (Rq.lists vs) = Rq.sizes ((Rq.lists vs).headD []) n ((Rq.lists vs).drop i) ∧ wr = w) (fun _ vi _ => vs.length - (intOf vi).toNat)
  case atStart => exact ⟨0, 0, Nat.zero_le _, rfl, rfl, Int.le_refl _, by decide, rfl, rfl⟩
  case round =>
    obtain ⟨i, n, hi, rfl, rfl, hn0, hn1, hsz, rfl⟩ := hrel
    have HZ := Hid.mk' hsz
    clear hsz
    by_cases hlt : i < vs.length
    · obtain ⟨bb, oo, rfl, hc⟩ := HL.out.lit (by rw [strV_length]; omega)
      have hlt' : (i : Int) < vs.length := by omega
      have hcv := HL.out.1
      have c0 : wr.cell? ⟨bb, oo, none⟩ = some (.string vs[0]) := by have := hc 0 _ (strV_at vs 0 (by omega)); simpa using this
      have ci : wr.cell? ⟨bb, oo + i, none⟩ = some (.string vs[i]) := hc i _ (strV_at vs i hlt)
      have HNo := Hid.mk' (number10_any vs[i] wr (by have := HZs.out vs[i] (List.getElem_mem hlt); unfold maxLen; omega))
      have hdr : (Rq.lists vs).drop i = vs[i].data.toList :: (Rq.lists vs).drop (i + 1) := by
        unfold Rq.lists
        rw [List.drop_eq_getElem_cons (by rw [List.length_map]; exact hlt), List.getElem_map]
      have hhd : (Rq.lists vs).headD [] = vs[0].data.toList := by
        unfold Rq.lists
        cases vs with
        | nil => simp at hlt
        | cons v r => rfl
      have hz := HZ.out
      rw [hdr, Rq.sizes] at hz
      have hnb := Rq.number_range vs[i].data.toList
      have hsame : (vs[i].toList == vs[0].toList) = decide (vs[i].data.toList = (Rq.lists vs).headD []) := by
        rw [hhd, Lib.toList_data, Lib.toList_data, Bool.eq_iff_iff]; simp
      have HZ2 := Hid.mk' hz
      clear hdr hz hhd HZ hc
      generalize vs[i] = x at *
      generalize vs[0] = y at *
      generalize (Ch.number 10 9 x.data.toList).1 = n2 at *
      generalize (Ch.number 10 9 x.data.toList).2 = ok at *
      have hn20 := hnb.1
      have hn21 := hnb.2
      clear hnb
      cases ok
      · go_wp2_with (go_at_call 113; refine HNo.out.mono ?_; rintro e w2 ⟨rfl, hw⟩; subst hw)
        (try simp only [Exit.inBlock, Exit.then])
        go_ret2
        have := HE.out
        rw [HZ2.out] at this
        first | rw [if_pos rfl] at this | rw [if_pos trivial] at this
        exact ⟨by rw [this]; rfl, rfl⟩
      · by_cases he : x.data.toList = (Rq.lists vs).headD []
        · rw [decide_eq_true he] at hsame
          have HD := Hid.mk' he
          clear he
          go_wp2_with (go_at_call 113; refine HNo.out.mono ?_; rintro e w2 ⟨rfl, hw⟩; subst hw)
          go_roundw
          case rel =>
            refine ⟨i + 1, n2, by omega, by go_num, rfl, hn20, hn21, ?_, by first | rfl | trivial⟩
            have := HZ2.out
            rw [if_neg (by simp), if_neg (fun e => e HD.out)] at this
            exact this
          case measure => simp [intOf]; omega
        · rw [decide_eq_false he] at hsame
          have HD := Hid.mk' he
          clear he
          go_wp2_with (go_at_call 113; refine HNo.out.mono ?_; rintro e w2 ⟨rfl, hw⟩; subst hw)
          (try simp only [Exit.inBlock, Exit.then])
          go_ret2
          have := HE.out
          rw [HZ2.out, if_neg (by simp), if_pos HD.out] at this
          exact ⟨by rw [this]; rfl, rfl⟩
    · obtain rfl : i = vs.length := by omega
      have hE := HE.out
      rw [HZ.out, List.drop_eq_nil_of_le (by unfold Rq.lists; simp), Rq.sizes] at hE
      simp only at hE
      by_cases h4 : 4000 < n
      · rw [if_pos h4] at hE
        have t4 : decide (n > 4000) = true := decide_eq_true h4
        have HE2 := Hid.mk' hE
        clear hE h4
        go_wp2
        go_ret2
        exact ⟨by rw [HE2.out]; rfl, rfl⟩
      · rw [if_neg h4] at hE
        have t4 : decide (n > 4000) = false := decide_eq_false h4
        have HE2 := Hid.mk' hE
        clear hE h4
        go_wp2
        go_ret2
        exact ⟨by rw [HE2.out]; rfl, rfl⟩
end Go.Proofs.YtbcmlolaihnalacGreatDoor

/- Package chars, walked: Lower. -/
namespace Go.Proofs.YtbcmlolaihnalacGreatDoor
open Go.RowKit

/-- the bytes when the first k were looked at -/
def lowCell (s : ByteArray) (k j : Nat) : Value := .int .u8 ((if j < k then Ch.lowB (s.data.toList.getD j 0) else s.data.toList.getD j 0).toNat : Int)

theorem lowCell_same (s : ByteArray) (k j : Nat) (h : Ch.lowB (s.data.toList.getD k 0) = s.data.toList.getD k 0) : some (lowCell s k j) = some (lowCell s (k + 1) j) := by
  unfold lowCell
  by_cases h1 : j < k
  · rw [if_pos h1, if_pos (by omega)]
  · by_cases h2 : j = k
    · subst h2; rw [if_neg h1, if_pos (by omega), h]
    · rw [if_neg h1, if_neg (by omega)]

theorem lowCell_other (s : ByteArray) (k j : Nat) (h : j ≠ k) : some (lowCell s k j) = some (lowCell s (k + 1) j) := by
  unfold lowCell
  by_cases h1 : j < k
  · rw [if_pos h1, if_pos (by omega)]
  · rw [if_neg h1, if_neg (by omega)]

set_option maxHeartbeats 800000 in
theorem lower_any (s : ByteArray) (w : World) (hs : s.size ≤ maxLen) :
    Calls Tryz.prog 82 #[.string s] w fun e w' => e = .returned (.string ⟨(Ch.lower s.data.toList).toArray⟩) ∧ Below w.heap.size w w' := by
  unfold maxLen at hs
  have hconv := run_bytes_of_string (P := Tryz.prog) w 9 22 5 s Tryz.underlying9 Tryz.underlying22 Tryz.underlying5
  generalize grownCap w s.size 0 5 = cap at hconv
  have hat : ∀ j, j < s.size → (bytesRow s cap)[j]? = some (lowCell s 0 j) := fun j hj => by
    rw [bytesRow_at s cap j hj]
    unfold lowCell
    rw [if_neg (by omega)]
    have e : s.data.toList.getD j 0 = s.data[j]'hj := by
      simp [List.getD, hj]
    rw [e]
  have hsz : s.size ≤ (bytesRow s cap).size := by unfold bytesRow; simp
  generalize bytesRow s cap = C at hconv hat hsz
  go_enter Tryz.func82, Tryz.ntmps82
  go_wp2
  have hB0 : Below w.heap.size w (w.alloc (.cells C 5 (C.size, C.size + 1))).drew := ((Below.refl _ _).alloc (Nat.le_refl _) _).drew
  have hc0 : ∀ j, j < s.size → ((w.alloc (.cells C 5 (C.size, C.size + 1))).drew).cell? ⟨w.heap.size, j, none⟩ = some (lowCell s 0 j) := fun j hj => by
    rw [← hat j hj]; exact World.cell?_alloc_mark w C 5 _ j
  have hf0 : ∀ j, j < s.size → ((w.alloc (.cells C 5 (C.size, C.size + 1))).drew).frozen? ⟨w.heap.size, j, none⟩ = false := fun j hj => by
    refine (World.frozen?_alloc_mark w C 5 C.size (C.size + 1) j).trans ?_
    rw [decide_eq_false (by omega)]; rfl
  clear hconv hat
  go_loopw [10] (fun i wr => ∃ k : Nat, k ≤ s.size ∧ i = .int .i64 k ∧ Below w.heap.size w wr ∧ (∀ j, j < s.size → wr.cell? ⟨w.heap.size, j, none⟩ = some (lowCell s k j)) ∧ (∀ j, j < s.size → wr.frozen? ⟨w.heap.size, j, none⟩ = false)) (fun i _ => s.size - (intOf i).toNat)
  case atStart => exact ⟨0, Nat.zero_le _, rfl, hB0, hc0, hf0⟩
  case round =>
    obtain ⟨k, hk, rfl, hbl, hcs, hfs⟩ := hrel
    clear hB0 hc0 hf0 hsz
    have HC : Hid (∀ j, j < s.size → wr.cell? ⟨w.heap.size, j, none⟩ = some (lowCell s k j)) := hcs
    have HF : Hid (∀ j, j < s.size → wr.frozen? ⟨w.heap.size, j, none⟩ = false) := hfs
    clear hcs hfs
    by_cases hlt : k < s.size
    · have hb := s[k].toNat_lt
      have e0 : s.data.toList.getD k 0 = s[k] := by
        have : s.data.toList[k]? = some s[k] := List.getElem?_eq_getElem (by simpa using hlt)
        simp [List.getD, this]
      have hcell : wr.cell? ⟨w.heap.size, k, none⟩ = some (.int .u8 s[k].toNat) := by
        rw [HC.out k hlt]; unfold lowCell; rw [if_neg (by omega), e0]
      have hfz := HF.out k hlt
      have H0 : Hid (s.data.toList.getD k 0 = s[k]) := e0
      clear e0
      cases hcap : Ch.capital s[k].toNat
      · have HL : Hid (Ch.lowB s[k] = s[k]) := Ch.lowB_no _ hcap
        go_wp2_with (go_at_call 99; refine (capital_any _ _).mono ?_; rintro e w' ⟨rfl, rfl⟩)
        go_roundw
        case rel => exact ⟨k + 1, by omega, by go_num, hbl, fun j hj => by rw [HC.out j hj]; exact lowCell_same s k j (by rw [H0.out, HL.out]), HF.out⟩
        case measure => simp [intOf]; omega
      · have HL : Hid (((Ch.lowB s[k]).toNat : Int) = s[k].toNat - 65 + 97) := Ch.lowB_yes _ hcap
        have hcr : 65 ≤ s[k].toNat ∧ s[k].toNat ≤ 90 := by
          unfold Ch.capital at hcap; rw [Bool.and_eq_true, decide_eq_true_eq, decide_eq_true_eq] at hcap; omega
        go_wp2_with (go_at_call 99; refine (capital_any _ _).mono ?_; rintro e w' ⟨rfl, rfl⟩)
        go_roundw
        case rel =>
          refine ⟨k + 1, by omega, by go_num, hbl.setCell (Nat.le_refl _) _, fun j hj => ?_, fun j hj => by rw [World.frozen?_setCell]; exact HF.out j hj⟩
          by_cases hjk : j = k
          · subst hjk
            rw [World.cell?_setCell_same (h := hcell)]
            unfold lowCell
            rw [if_pos (by omega), H0.out, HL.out]
          · rw [World.cell?_setCell_other (h := by intro h; injection h with _ h2; exact hjk h2.symm), HC.out j hj]
            exact lowCell_other s k j hjk
        case measure => simp [intOf]; omega
    · obtain rfl : k = s.size := by omega
      have hback : (convert 22 9 (.slice (some ⟨w.heap.size, 0, none⟩) s.size cap)).run Tryz.prog wr = .ok (.string ⟨(Ch.lower s.data.toList).toArray⟩) wr := by
        have h := run_convert_bytes_back (P := Tryz.prog) wr 22 9 5 ⟨w.heap.size, 0, none⟩ cap (Ch.lower s.data.toList) Tryz.underlying22 Tryz.underlying5 Tryz.underlying9 (fun j hj => by
          have hj' : j < s.size := by rw [Ch.lower_length, Ch.len_list] at hj; exact hj
          have ha : ((⟨w.heap.size, 0, none⟩ : Addr).add j) = ⟨w.heap.size, j, none⟩ := by unfold Addr.add; simp; omega
          rw [ha, HC.out j hj']
          unfold lowCell
          rw [if_pos hj']
          have e : (Ch.lower s.data.toList)[j] = Ch.lowB (s.data.toList.getD j 0) := by
            simp [Ch.lower, List.getD, hj']
          rw [e])
        rw [Ch.lower_length, Ch.len_list] at h
        exact h
      clear HC HF
      generalize hr : (⟨(Ch.lower s.data.toList).toArray⟩ : ByteArray) = r at hback
      have HR : Hid ((⟨(Ch.lower s.data.toList).toArray⟩ : ByteArray) = r) := hr
      clear hr
      go_wp2
      go_ret
      exact ⟨ret_str HR.out.symm, hbl⟩
end Go.Proofs.YtbcmlolaihnalacGreatDoor

/- Package fields, walked: Text. -/
namespace Go.Proofs.YtbcmlolaihnalacGreatDoor
open Go.RowKit

/-- a block of two texts that a call made first of its argument -/
structure BoxAt (w : World) (n v : ByteArray) (W : World) : Prop where
  c0 : W.cell? ⟨w.heap.size, 0, none⟩ = some (.string n)
  c1 : W.cell? ⟨w.heap.size, 1, none⟩ = some (.string v)
  below : Below w.heap.size w W
  lt : w.heap.size < W.heap.size
theorem BoxAt.made (w : World) (n v : ByteArray) (t : Nat) : BoxAt w n v (w.alloc (.cells #[.string n, .string v] t)) :=
  ⟨World.cell?_alloc_mark w _ _ _ 0, World.cell?_alloc_mark w _ _ _ 1, (Below.refl _ _).alloc (Nat.le_refl _) _, by simp⟩
theorem BoxAt.stay {w W W' : World} {n v : ByteArray} (h : BoxAt w n v W) (hb : Below W.heap.size W W') : BoxAt w n v W' :=
  ⟨(hb.cell (p := ⟨w.heap.size, 0, none⟩) h.lt).trans h.c0, (hb.cell (p := ⟨w.heap.size, 1, none⟩) h.lt).trans h.c1, then_ h.below hb, Nat.lt_of_lt_of_le h.lt hb.size⟩
theorem BoxAt.alloc {w W : World} {n v : ByteArray} (h : BoxAt w n v W) (o : Obj) : BoxAt w n v (W.alloc o) := h.stay ((Below.refl _ _).alloc (Nat.le_refl _) _)
theorem BoxAt.drew {w W : World} {n v : ByteArray} (h : BoxAt w n v W) : BoxAt w n v W.drew := h.stay (below_drew _ _)

set_option maxHeartbeats 1600000 in
theorem text_any (n v : ByteArray) (w : World) (hn : n.size ≤ 2000) (hv : v.size ≤ 2000) :
    Calls Tryz.prog 32 #[.agg #[.string n, .string v]] w fun e w' => e = .returned (txVal (Fd.text n.data.toList v.data.toList)) ∧ Below w.heap.size w w' := by
  have HT := Hid.mk' (fun W => isToken_any n W (by unfold maxLen; omega))
  have HV := Hid.mk' (fun W => isVisible_any v W (by unfold maxLen; omega))
  have HTr := Hid.mk' (fun W => trim_any v W hv)
  have hln : n.data.toList.length = n.size := by rw [Array.length_toList]; rfl
  have hlv : v.data.toList.length = v.size := by rw [Array.length_toList]; rfl
  have hof : Fd.text n.data.toList v.data.toList = if Ch.isToken n.data.toList = false then ([], 6) else if 40 < n.size ∨ 200 < n.size + 2 + v.size then ([], 4) else if Ch.isVisible v.data.toList = false ∨ Lib.trimS v.data.toList Ch.ws ≠ v.data.toList then ([], 3) else (n.data.toList ++ [58, 32] ++ v.data.toList, 0) := by
    unfold Fd.text; rw [hln, hlv]
  clear hln hlv
  have HO := Hid.mk' hof
  clear hof
  have hsz : (n ++ ⟨#[58, 32]⟩ ++ v).size = n.size + 2 + v.size := by simp [ByteArray.size_append]; rfl
  have HE : Hid (n ++ ⟨#[58, 32]⟩ ++ v = ⟨(n.data.toList ++ [58, 32] ++ v.data.toList).toArray⟩) := Ch.str_eq (by rw [Ch.data_append, Ch.data_append])
  cases ht : Ch.isToken n.data.toList
  · rw [ht] at HT
    have HR : Hid (Fd.text n.data.toList v.data.toList = ([], 6)) := by have := HO.out; rw [if_pos ht] at this; exact this
    clear HO ht HV HTr HE
    go_enter Tryz.func32, Tryz.ntmps32
    go_wp2_with fail
    refine (HT.out _).mono ?_
    rintro e w3 ⟨rfl, hw⟩
    have hB := below_box ⟨0, hw⟩
    clear hw
    go_wp2
    go_ret2
    exact ⟨ret_tx HR.out rfl, hB⟩
  · rw [ht] at HT
    have h6 := HO.out
    rw [if_neg (by rw [ht]; simp)] at h6
    have HO6 := Hid.mk' h6
    clear HO ht h6
    by_cases h40 : 40 < n.size ∨ 200 < n.size + 2 + v.size
    · have HR : Hid (Fd.text n.data.toList v.data.toList = ([], 4)) := by have := HO6.out; rw [if_pos h40] at this; exact this
      clear HO6 HV HTr HE
      by_cases h4 : 40 < n.size
      · have t1 : decide ((n.size : Int) > 40) = true := by rw [decide_eq_true_eq]; omega
        go_enter Tryz.func32, Tryz.ntmps32
        go_wp2_with fail
        refine (HT.out _).mono ?_
        rintro e w3 ⟨rfl, hw⟩
        have B3 : Hid (BoxAt w n v w3) := by rw [hw]; exact BoxAt.made w n v _
        clear hw
        have c0 := B3.out.c0
        go_wp2
        go_ret2
        exact ⟨ret_tx HR.out rfl, B3.out.below⟩
      · have t1 : decide ((n.size : Int) > 40) = false := by rw [decide_eq_false_iff_not]; omega
        have t2 : decide (((n ++ ⟨#[58, 32]⟩ ++ v).size : Int) > 200) = true := by rw [decide_eq_true_eq, hsz]; omega
        clear hsz
        go_enter Tryz.func32, Tryz.ntmps32
        go_wp2_with fail
        refine (HT.out _).mono ?_
        rintro e w3 ⟨rfl, hw⟩
        have B3 : Hid (BoxAt w n v w3) := by rw [hw]; exact BoxAt.made w n v _
        clear hw
        have c0 := B3.out.c0
        generalize n ++ ⟨#[58, 32]⟩ ++ v = tx at *
        go_wp2
        go_ret2
        exact ⟨ret_tx HR.out rfl, B3.out.below⟩
    · have h4 := HO6.out
      rw [if_neg h40] at h4
      have HO4 := Hid.mk' h4
      clear HO6 h4
      have t1 : decide ((n.size : Int) > 40) = false := by rw [decide_eq_false_iff_not]; omega
      have t2 : decide (((n ++ ⟨#[58, 32]⟩ ++ v).size : Int) > 200) = false := by rw [decide_eq_false_iff_not, hsz]; omega
      clear h40 hsz
      cases hvi : Ch.isVisible v.data.toList
      · rw [hvi] at HV
        have HR : Hid (Fd.text n.data.toList v.data.toList = ([], 3)) := by have := HO4.out; rw [if_pos (Or.inl hvi)] at this; exact this
        clear HO4 hvi HTr HE
        go_enter Tryz.func32, Tryz.ntmps32
        go_wp2_with fail
        refine (HT.out _).mono ?_
        rintro e w3 ⟨rfl, hw⟩
        have B3 : Hid (BoxAt w n v w3) := by rw [hw]; exact BoxAt.made w n v _
        clear hw
        have c0 := B3.out.c0
        have c1 := B3.out.c1
        generalize n ++ ⟨#[58, 32]⟩ ++ v = tx at *
        go_wp2_with fail
        refine (HV.out _).mono ?_
        rintro e w4 ⟨rfl, hw⟩
        subst hw
        go_wp2
        go_ret2
        exact ⟨ret_tx HR.out rfl, B3.out.below⟩
      · rw [hvi] at HV
        by_cases htr : Lib.trimS v.data.toList Ch.ws = v.data.toList
        · have HR : Hid (Fd.text n.data.toList v.data.toList = (n.data.toList ++ [58, 32] ++ v.data.toList, 0)) := by have := HO4.out; rw [if_neg (by rw [hvi, htr]; simp)] at this; exact this
          rw [htr] at HTr
          have hve : (⟨v.data.toList.toArray⟩ : ByteArray) = v := rfl
          rw [hve] at HTr
          clear HO4 hvi htr hve
          go_enter Tryz.func32, Tryz.ntmps32
          go_wp2_with fail
          refine (HT.out _).mono ?_
          rintro e w3 ⟨rfl, hw⟩
          have B3 : Hid (BoxAt w n v w3) := by rw [hw]; exact BoxAt.made w n v _
          clear hw
          have c0 := B3.out.c0
          have c1 := B3.out.c1
          generalize n ++ ⟨#[58, 32]⟩ ++ v = tx at *
          go_wp2_with fail
          refine (HV.out _).mono ?_
          rintro e w4 ⟨rfl, hw⟩
          subst hw
          go_wp2
          go_region_held3 (fun w' => w'.cell? ⟨w.heap.size, 1, none⟩ = some (.string v)) (go_keep) (first | (go_at_call 53; refine (HTr.out _).mono ?_; rintro e w5 ⟨rfl, hB⟩; have B5 := Hid.mk' (B3.out.drew.stay hB); have c1' := B5.out.c1; clear hB))
          all_goals
            go_wp2
            go_ret2
            exact ⟨ret_tx HR.out (by unfold txVal; rw [← HE.out]; rfl), B5.out.below⟩
        · have HR : Hid (Fd.text n.data.toList v.data.toList = ([], 3)) := by have := HO4.out; rw [if_pos (Or.inr htr)] at this; exact this
          have hne : ((⟨(Lib.trimS v.data.toList Ch.ws).toArray⟩ : ByteArray).toList == v.toList) = false := by
            rw [Lib.toList_data, Lib.toList_data, beq_eq_false_iff_ne]; simpa using htr
          clear HO4 hvi htr HE
          generalize (⟨(Lib.trimS v.data.toList Ch.ws).toArray⟩ : ByteArray) = tv at HTr hne
          go_enter Tryz.func32, Tryz.ntmps32
          go_wp2_with fail
          refine (HT.out _).mono ?_
          rintro e w3 ⟨rfl, hw⟩
          have B3 : Hid (BoxAt w n v w3) := by rw [hw]; exact BoxAt.made w n v _
          clear hw
          have c0 := B3.out.c0
          have c1 := B3.out.c1
          generalize n ++ ⟨#[58, 32]⟩ ++ v = tx at *
          go_wp2_with fail
          refine (HV.out _).mono ?_
          rintro e w4 ⟨rfl, hw⟩
          subst hw
          go_wp2
          go_region_held3 (fun w' => w'.cell? ⟨w.heap.size, 1, none⟩ = some (.string v)) (go_keep) (first | (go_at_call 53; refine (HTr.out _).mono ?_; rintro e w5 ⟨rfl, hB⟩; have B5 := Hid.mk' (B3.out.drew.stay hB); have c1' := B5.out.c1; clear hB))
          all_goals
            go_wp2
            go_ret2
            exact ⟨ret_tx HR.out rfl, B5.out.below⟩
end Go.Proofs.YtbcmlolaihnalacGreatDoor
