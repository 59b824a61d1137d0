/- Small texts, one behind the other: StAnyB, RqTgt, RqFst, RqFld. -/
import Derived.Test.YtbcmlolaihnalacGreatDoorPk16
import Derived.Test.YtbcmlolaihnalacGreatDoorPk10
import Derived.Test.YtbcmlolaihnalacGreatDoorPk13
import Derived.Test.YtbcmlolaihnalacGreatDoorPk6
import Derived.Test.YtbcmlolaihnalacGreatDoorPk9
import Derived.Test.YtbcmlolaihnalacGreatDoorPk7
import Derived.Deep.RegionLaw
import Derived.Deep.AppendLies
/- strings.ContainsAny at a blank and a tab, whatever the text, walked. -/
namespace Go.Proofs.YtbcmlolaihnalacGreatDoor
open Go.RowKit

theorem noAny_far {s : ByteArray} {i n : Nat} (h : Lib.NoAny s.data.toList [32, 9] i) (hk : ∀ k, k < n → 128 ≤ (s.get! (i + k)).toNat) : Lib.NoAny s.data.toList [32, 9] (i + n) := by
  intro j b hj hb
  by_cases hji : j < i
  · exact h j b hji hb
  · have := hk (j - i) (by omega)
    rw [show i + (j - i) = j by omega] at this
    have hl : j < s.data.size := by
      have := (List.getElem?_eq_some_iff.1 hb).1
      rwa [Array.length_toList] at this
    have e : s.get! j = b := by
      have h2 : s.data[j]? = some b := by rw [← hb]; simp
      have h3 : s.data[j]! = b := by
        rw [getElem!_def, h2]
      exact h3
    rw [e] at this
    have h1 : b ≠ 32 := fun e => by subst e; exact absurd this (by decide)
    have h2 : b ≠ 9 := fun e => by subst e; exact absurd this (by decide)
    simp [h1, h2]

/-- an iterator over a text goes on -/
def iterTo (W : World) (k : Nat) (s : ByteArray) (p : Nat) : World := { W with heap := W.heap.setIfInBounds k (.stringIter s p) }
theorem run_next_at {P : Program} (W : World) (k pos : Nat) (s : ByteArray) (ty : TypeId) (hk : W.heap[k]? = some (.stringIter s pos)) (h : pos < s.size) :
    (Instr.next (.pointer (some ⟨k, 0, none⟩)) true ty).run P W = .ok (.tuple #[.bool true, .int .i64 pos, .int .i32 (Utf8.decode s pos).1]) (iterTo W k s (pos + (Utf8.decode s pos).2)) := by
  simp only [Instr.next, getObj, setObj, Sem.run_bind, Sem.run, hk, Result.andThen, h, if_true]
  simp [goInt, iterTo]
theorem run_next_over {P : Program} (W : World) (k pos : Nat) (s : ByteArray) (ty : TypeId) (hk : W.heap[k]? = some (.stringIter s pos)) (h : ¬ pos < s.size) :
    (Instr.next (.pointer (some ⟨k, 0, none⟩)) true ty).run P W = .ok (.tuple #[.bool false]) W := by
  simp [Instr.next, getObj, Sem.run, hk, h]
theorem iterTo_at {W : World} {k pos p : Nat} {s : ByteArray} (hk : W.heap[k]? = some (.stringIter s pos)) : (iterTo W k s p).heap[k]? = some (.stringIter s p) := by
  have hl := (Array.getElem?_eq_some_iff.1 hk).1
  show (W.heap.setIfInBounds k _)[k]? = _
  simp [hl]
theorem iterTo_below {w W : World} {s : ByteArray} {p : Nat} (h : Below w.heap.size w W) : Below w.heap.size w (iterTo W w.heap.size s p) :=
  ⟨h.os, h.tape, h.output, by show w.heap.size ≤ (W.heap.setIfInBounds _ _).size; rw [Array.size_setIfInBounds]; exact h.size, fun k hk => by
    show (W.heap.setIfInBounds _ _)[k]? = _
    rw [Array.getElem?_setIfInBounds_ne (by omega)]; exact h.block k hk⟩

set_option maxHeartbeats 4000000 in
set_option maxRecDepth 100000 in
theorem indexAny_short (s : ByteArray) (w : World) (h8 : s.size ≤ 8) :
    Calls Tryz.prog 81 #[.string s, .string ⟨#[32, 9]⟩] w fun e w' => e = .returned (.int .i64 (Lib.indexAny s.data.toList [32, 9])) ∧ Below w.heap.size w w' := by
  have h8z : decide ((8 : Int) < (s.size : Int)) = false := decide_eq_false (by omega)
  have HS := Hid.mk' (fun W => Any.strings_shouldUseASCIISet { Tryz.lays153 with } (s.size : Int) W)
  have HR := Hid.mk' (fun (r : Int) W h0 h1 => Any.strings_IndexRune_ascii { Tryz.lays153 with } ⟨#[32, 9]⟩ r W h0 h1)
  change Hid (∀ W, Calls Tryz.prog 102 _ _ _) at HS
  change Hid (∀ (r : Int) (W : World) (h0 : 0 ≤ r) (h1 : r < 128), Calls Tryz.prog 101 _ _ _) at HR
  go_enter Tryz.func81, Tryz.ntmps81
  go_wp2_with (go_at_call 102; refine (HS.out _).mono ?_; rintro e w' ⟨rfl, hw⟩; rw [hw, h8z])
  go_loopg [9, 10] s.size (fun g _ _ wx => ∃ i : Nat, i + g = s.size ∧ Lib.NoAny s.data.toList [32, 9] i ∧ wx.heap[w.heap.size]? = some (.stringIter s i) ∧ Below w.heap.size w wx)
  case atStart => exact ⟨0, by omega, Lib.NoAny.zero _ _, World.iter_heap w s 0, iter_below w s 0⟩
  case round =>
    obtain ⟨i, hig, hno, hit, hbl⟩ := hrel
    have HN := Hid.mk' hno; have HT := Hid.mk' hit; have HB := Hid.mk' hbl
    clear hno hit hbl
    by_cases hi : i < s.size
    · obtain ⟨x, hx⟩ : ∃ x : UInt8, s[i]'hi = x := ⟨_, rfl⟩
      have hxl : s.data.toList[i]? = some x := by rw [← hx]; exact Lib.data_getElem? s i hi
      have Hx := Hid.mk' hxl
      clear hxl
      by_cases h128 : x.toNat < 128
      · have hnx := fun ty => run_next_at (P := Tryz.prog) wr w.heap.size i s ty HT.out hi
        rw [decode_ascii s i hi (by rw [hx]; exact h128), hx] at hnx
        have hcon := Lib.contains_iff_indexByte [32, 9] x
        have hback : ((x.toNat : Int)).toNat.toUInt8 = x := by simp
        have HB' := Hid.mk' (iterTo_below (s := s) (p := i + 1) HB.out)
        have HT' := Hid.mk' (iterTo_at (p := i + 1) HT.out)
        have HRx := Hid.mk' (HR.out (x.toNat : Int) (iterTo wr w.heap.size s (i + 1)) (by omega) (by omega))
        rw [hback] at HRx
        clear hx
        cases hin : ([32, 9] : List UInt8).contains x
        · rw [hin] at hcon
          have hlt : decide ((0 : Int) ≤ Lib.indexByte [32, 9] x) = false := hcon.symm
          clear hcon
          go_wp2_with (go_at_call 101; refine HRx.out.mono ?_; rintro e w' ⟨rfl, hw⟩; subst hw)
          go_roundg (s.size - (i + 1))
          case measure => omega
          case rel => exact ⟨i + 1, by omega, HN.out.succ Hx.out hin, HT'.out, HB'.out⟩
        · rw [hin] at hcon
          have hge : decide ((0 : Int) ≤ Lib.indexByte [32, 9] x) = true := hcon.symm
          clear hcon
          go_wp2_with (go_at_call 101; refine HRx.out.mono ?_; rintro e w' ⟨rfl, hw⟩; subst hw)
          go_ret
          exact ⟨by rw [Lib.indexAny_hit HN.out Hx.out hin]; rfl, HB'.out⟩
      · have hnx := fun ty => run_next_at (P := Tryz.prog) wr w.heap.size i s ty HT.out hi
        obtain ⟨d1, d2, d3, d4, d5⟩ := decode_far s i hi (by rw [hx]; omega)
        have HN' := Hid.mk' (noAny_far HN.out d5)
        have HB' := Hid.mk' (iterTo_below (s := s) (p := i + (Utf8.decode s i).2) HB.out)
        have HT' := Hid.mk' (iterTo_at (p := i + (Utf8.decode s i).2) HT.out)
        have HRx := Hid.mk' (rune_far ((Utf8.decode s i).1 : Int) (iterTo wr w.heap.size s (i + (Utf8.decode s i).2)) (by omega) d2)
        have HD := Hid.mk' (And.intro d3 d4)
        clear d1 d2 d3 d4 d5 hx h128
        generalize (Utf8.decode s i).1 = r at hnx HRx
        generalize (Utf8.decode s i).2 = n at hnx HRx HN' HB' HT' HD
        go_wp2_with (go_at_call 101; refine HRx.out.mono ?_; rintro e w2 ⟨rfl, hw⟩; have HW := Hid.mk' hw; clear hw)
        go_roundg (s.size - (i + n))
        case measure => have := HD.out; omega
        case rel =>
          have := HD.out
          have hlt := (Array.getElem?_eq_some_iff.1 HT'.out).1
          exact ⟨i + n, by omega, HN'.out, (HW.out.block _ hlt).trans HT'.out, HB'.out.trans (HW.out.mono HB'.out.size)⟩
    · obtain rfl : i = s.size := by omega
      have hnx := fun ty => run_next_over (P := Tryz.prog) wr w.heap.size s.size s ty HT.out hi
      go_wp2
      go_ret
      exact ⟨by rw [Lib.indexAny_none (by rw [← Lib.size_eq]; exact HN.out)]; rfl, HB.out⟩
end Go.Proofs.YtbcmlolaihnalacGreatDoor

/- Package request, walked: isTarget. -/
namespace Go.Proofs.YtbcmlolaihnalacGreatDoor
open Go.RowKit

/-- has it a blank or a tab? -/
def Rq.blank (l : List UInt8) : Bool := l.any fun b => b == 32 || b == 9
theorem Rq.blank_index : ∀ l : List UInt8, decide (0 ≤ Lib.indexAny l [32, 9]) = Rq.blank l
  | [] => rfl
  | b :: l => by
    have ih := Rq.blank_index l
    have hc : ([32, 9] : List UInt8).contains b = (b == 32 || b == 9) := by
      simp [List.contains, List.elem]
      cases h1 : b == 32 <;> cases h2 : b == 9 <;> simp
    unfold Lib.indexAny Rq.blank
    rw [List.any_cons, hc]
    cases h : (b == 32 || b == 9)
    · simp only [Bool.false_eq_true, if_false, Bool.false_or]
      rw [show (l.any fun b => b == 32 || b == 9) = Rq.blank l from rfl, ← ih]
      have hg := Lib.indexAny_ge [32, 9] l
      by_cases h1 : Lib.indexAny l [32, 9] = -1
      · rw [h1]; rfl
      · have h2 : (Lib.indexAny l [32, 9] == -1) = false := beq_eq_false_iff_ne.2 h1
        rw [h2]
        simp only [Bool.false_eq_true, if_false]
        rw [decide_eq_decide]; omega
    · simp
/-- may a text stand in a first line, between its blanks? -/
def Rq.isTarget (l : List UInt8) : Bool := decide (l.head? = some 47) && (!Rq.blank l && Ch.isVisible l)

theorem zero_set : (Tryz.prog.info? 139).map (fun i => (i.zero, i.size)) = some (some (.agg (Array.replicate 256 (.bool false))), 256) := by kernel_rfl

theorem indexAny_any (s : ByteArray) (w : World) (hs : s.size ≤ 1000000) :
    Calls Tryz.prog 81 #[.string s, .string ⟨#[32, 9]⟩] w fun e w' => e = .returned (.int .i64 (Lib.indexAny s.data.toList [32, 9])) ∧ Below w.heap.size w w' := by
  by_cases h8 : s.size ≤ 8
  · exact indexAny_short s w h8
  · have hcon := Any.strings_IndexAny_long Tryz.lays153 (zero_of_info zero_set).1 (zero_of_info zero_set).2 s ⟨#[32, 9]⟩ w (by decide) (by omega) (by omega) (by decide) (fun j b hb => by
      have : b ∈ ([32, 9] : List UInt8) := List.mem_of_getElem? hb
      simp at this
      rcases this with rfl | rfl <;> decide)
    change Calls Tryz.prog 81 _ _ (fun e w' => e = .returned (.int .i64 (Lib.indexAny s.data.toList [32, 9])) ∧ w' = _) at hcon
    refine hcon.mono ?_
    rintro e w' ⟨rfl, rfl⟩
    exact ⟨rfl, ((Below.refl _ _).alloc (Nat.le_refl _) _).alloc (by simp) _⟩

theorem containsAny_any (s : ByteArray) (w : World) (hs : s.size ≤ 1000000) :
    Calls Tryz.prog 65 #[.string s, .string ⟨#[32, 9]⟩] w fun e w' => e = .returned (.bool (Rq.blank s.data.toList)) ∧ Below w.heap.size w w' := by
  have HI := Hid.mk' (indexAny_any s w hs)
  have hb := Rq.blank_index s.data.toList
  go_enter Tryz.func65, Tryz.ntmps65
  go_wp2_with (go_at_call 81; refine HI.out.mono ?_; rintro e w1 ⟨rfl, hw⟩; have HW := Hid.mk' hw; clear hw)
  go_ret
  exact ⟨rfl, HW.out⟩

set_option maxHeartbeats 1000000 in
theorem isTarget_any (s : ByteArray) (w : World) (hs : s.size ≤ 1000000) :
    Calls Tryz.prog 49 #[.string s] w fun e w' => e = .returned (.bool (Rq.isTarget s.data.toList)) ∧ Below w.heap.size w w' := by
  have HP := Hid.mk' (stroke_one s w)
  have HC := Hid.mk' (containsAny_any s w hs)
  have HV := Hid.mk' (fun W => isVisible_any s W (by unfold maxLen; omega))
  have HE : Hid (Rq.isTarget s.data.toList = (decide (s.data.toList.head? = some 47) && (!Rq.blank s.data.toList && Ch.isVisible s.data.toList))) := rfl
  generalize Rq.isTarget s.data.toList = tt at HE ⊢
  generalize Ch.isVisible s.data.toList = vv at HV HE
  generalize Rq.blank s.data.toList = bb at HC HE
  generalize decide (s.data.toList.head? = some 47) = pp at HP HE
  cases pp
  · go_enter Tryz.func49, Tryz.ntmps49
    go_wp2_with (go_at_call 64; refine HP.out.mono ?_; rintro e w1 ⟨rfl, hw⟩; subst hw)
    go_ret
    exact ⟨ret_bool (by rw [HE.out]; rfl), Below.refl _ _⟩
  · cases bb
    · go_enter Tryz.func49, Tryz.ntmps49
      go_wp2_with (first
        | (go_at_call 64; refine HP.out.mono ?_; rintro e w1 ⟨rfl, hw⟩; subst hw)
        | (go_at_call 65; refine HC.out.mono ?_; rintro e w2 ⟨rfl, hw⟩; have HW := Hid.mk' hw; clear hw)
        | (go_at_call 52; refine (HV.out _).mono ?_; rintro e w3 ⟨rfl, hw⟩; subst hw))
      go_ret
      exact ⟨ret_bool (by rw [HE.out]; simp), HW.out⟩
    · go_enter Tryz.func49, Tryz.ntmps49
      go_wp2_with (first
        | (go_at_call 64; refine HP.out.mono ?_; rintro e w1 ⟨rfl, hw⟩; subst hw)
        | (go_at_call 65; refine HC.out.mono ?_; rintro e w2 ⟨rfl, hw⟩; have HW := Hid.mk' hw; clear hw))
      go_ret
      exact ⟨ret_bool (by rw [HE.out]; rfl), HW.out⟩
end Go.Proofs.YtbcmlolaihnalacGreatDoor

/- Package request, walked: a head's first line. -/
namespace Go.Proofs.YtbcmlolaihnalacGreatDoor
open Go.RowKit

theorem cutV_form (c : UInt8) (s : ByteArray) : ∃ a b f, Fd.cutV c s = .tuple #[.string a, .string b, .bool f] ∧ b.size ≤ s.size := by
  unfold Fd.cutV
  split
  · exact ⟨_, _, _, rfl, by show 0 ≤ s.size; omega⟩
  · exact ⟨_, _, _, rfl, by rw [ByteArray.size_extract]; omega⟩
theorem cutV_at {c : UInt8} {s : ByteArray} (h : Fd.at_ c s.data.toList < s.data.toList.length) : ∃ a b, Fd.cutV c s = .tuple #[.string a, .string b, .bool true] ∧ a.data.toList = s.data.toList.take (Fd.at_ c s.data.toList) ∧ b.data.toList = s.data.toList.drop (Fd.at_ c s.data.toList + 1) := by
  have hl : s.data.toList.length = s.size := by rw [Array.length_toList]; rfl
  unfold Fd.cutV
  rw [if_neg (by omega)]
  refine ⟨_, _, rfl, ?_, ?_⟩
  · rw [Lib.extract_data]; simp
  · rw [Lib.extract_data, ← hl, List.take_of_length_le]
    rw [List.length_drop]; omega
theorem target_is {l : List UInt8} (h32 : ∀ b ∈ l, b ≠ 32) (hv : ∀ b ∈ l, Ch.visible b.toNat = true) : Rq.isTarget l = decide (¬ (l.head? ≠ some 47 ∨ 9 ∈ l)) := by
  have hvis : Ch.isVisible l = true := List.all_eq_true.2 fun b hb => hv b hb
  have hbl : Rq.blank l = decide (9 ∈ l) := by
    unfold Rq.blank
    rw [Bool.eq_iff_iff, List.any_eq_true, decide_eq_true_eq]
    constructor
    · rintro ⟨b, hb, e⟩
      simp at e
      rcases e with e | e
      · exact absurd e (h32 b hb)
      · exact e ▸ hb
    · intro h
      exact ⟨9, h, rfl⟩
  unfold Rq.isTarget
  rw [hvis, hbl, Bool.eq_iff_iff]
  simp
/-- what a first line comes to -/
inductive FstOut (w : World) (g : Nat) (lp bd : Value) (t : List UInt8) (e : Ending) (w' : World) : Prop
  | bad (c : Nat) (he : e = .returned (.int .i64 (c : Int))) (hf : Rq.first t = .inl c) (hB : Below w.heap.size w w')
  | ok (h : Rq.Hd) (gh : Nat) (he : e = .returned (.int .i64 0)) (hf : Rq.first t = .inr h) (hP : PsAt w' g lp (.pointer (some ⟨gh, 0, none⟩)) false bd 0) (hH : HeadAt w' (fun k => w.heap.size ≤ k) gh h) (hT : Turns (fun k => k = g) w w')

set_option maxHeartbeats 1000000 in
/-- not just two blanks -/
theorem first_form (w : World) (g : Nat) (lp bd : Value) (t : ByteArray) (ht : t.size ≤ 2000) (hc : t.data.toList.count 32 ≠ 2) :
    Calls Tryz.prog 55 #[.pointer (some ⟨g, 0, none⟩), .string t] w fun e w' => FstOut w g lp bd t.data.toList e w' := by
  obtain ⟨a, b, f, e1, hb⟩ := cutV_form 32 t
  obtain ⟨a2, b2, f2, e2, _⟩ := cutV_form 32 b
  have H1 := Hid.mk' (cut_one t 32 w (by unfold maxLen; omega))
  have H2 := Hid.mk' (fun W => cut_one b 32 W (by unfold maxLen; omega))
  have H3 := Hid.mk' (fun W => count_one t 32 W)
  rw [e1] at H1
  simp only [e2] at H2
  have HF := Hid.mk' (Rq.first_no hc)
  have hne : (((t.data.toList.count 32 : Nat) : Int) != 2) = true := by rw [bne_iff_ne]; omega
  generalize t.data.toList.count 32 = nn at H3 hne
  clear hc e1 e2 hb
  go_enter Tryz.func55, Tryz.ntmps55
  go_wp2_with fail
  refine H1.out.mono ?_
  rintro e w1 ⟨rfl, n1, rfl⟩
  go_wp2_with fail
  refine (H2.out _).mono ?_
  rintro e w2 ⟨rfl, n2, rfl⟩
  go_wp2_with fail
  refine (H3.out _).mono ?_
  rintro e w3 ⟨rfl, hw⟩
  subst hw
  go_wp2
  go_ret
  exact .bad 5 rfl HF.out (drewN_below ⟨_, rfl⟩)

/-- a head that was begun, laid into the parser -/
theorem first_out {w w7 : World} {g : Nat} {lp bd : Value} {m gt : ByteArray} (hP : PsAt w7 g lp (.pointer none) false bd 0) (hB : Below w.heap.size w w7) (hg : g < w.heap.size) :
    PsAt ((w7.alloc (.cells #[.string m, .string gt, .int .i64 0, .slice none 0 0, .int .i64 0] 36)).setCell ⟨g, 1, none⟩ (.pointer (some ⟨w7.heap.size, 0, none⟩))) g lp (.pointer (some ⟨w7.heap.size, 0, none⟩)) false bd 0 ∧
    HeadAt ((w7.alloc (.cells #[.string m, .string gt, .int .i64 0, .slice none 0 0, .int .i64 0] 36)).setCell ⟨g, 1, none⟩ (.pointer (some ⟨w7.heap.size, 0, none⟩))) (fun k => w.heap.size ≤ k) w7.heap.size ⟨m.data.toList, gt.data.toList, 0, [], 0⟩ ∧
    Turns (fun k => k = g) w ((w7.alloc (.cells #[.string m, .string gt, .int .i64 0, .slice none 0 0, .int .i64 0] 36)).setCell ⟨g, 1, none⟩ (.pointer (some ⟨w7.heap.size, 0, none⟩))) := by
  have hsz := hB.size
  have hA : Below w7.heap.size w7 (w7.alloc (.cells #[.string m, .string gt, .int .i64 0, .slice none 0 0, .int .i64 0] 36)) := (Below.refl _ _).alloc (Nat.le_refl _) _
  refine ⟨(hP.stay hA).s1 _, ?_, ?_⟩
  · refine ⟨none, 0, ?_, OwnV.nil _ _ _ _, hsz, fun a e => by cases e⟩
    rw [heap_setCell_other _ _ _ _ (show w7.heap.size ≠ g by omega), heap_alloc_new]
    rfl
  · exact (Turns.of_below (S := fun k => k = g) (hB.trans (hA.mono hsz))).trans (Turns.setCell (fun k => k = g) _ _ _ rfl) (fun _ e _ => e)
theorem first_one {w w7 : World} {g : Nat} {lp bd : Value} {m gt : ByteArray} (hP : PsAt w7 g lp (.pointer none) false bd 0) (hB : Below w.heap.size w w7) (hg : g < w.heap.size) :
    PsAt (((w7.alloc (.cells #[.string m, .string gt, .int .i64 0, .slice none 0 0, .int .i64 0] 36)).setCell ⟨g, 1, none⟩ (.pointer (some ⟨w7.heap.size, 0, none⟩))).setCell ⟨w7.heap.size, 2, none⟩ (.int .i64 1)) g lp (.pointer (some ⟨w7.heap.size, 0, none⟩)) false bd 0 ∧
    HeadAt (((w7.alloc (.cells #[.string m, .string gt, .int .i64 0, .slice none 0 0, .int .i64 0] 36)).setCell ⟨g, 1, none⟩ (.pointer (some ⟨w7.heap.size, 0, none⟩))).setCell ⟨w7.heap.size, 2, none⟩ (.int .i64 1)) (fun k => w.heap.size ≤ k) w7.heap.size ⟨m.data.toList, gt.data.toList, 1, [], 0⟩ ∧
    Turns (fun k => k = g) w (((w7.alloc (.cells #[.string m, .string gt, .int .i64 0, .slice none 0 0, .int .i64 0] 36)).setCell ⟨g, 1, none⟩ (.pointer (some ⟨w7.heap.size, 0, none⟩))).setCell ⟨w7.heap.size, 2, none⟩ (.int .i64 1)) := by
  obtain ⟨h1, h2, h3⟩ := first_out (m := m) (gt := gt) hP hB hg
  have hsz := hB.size
  obtain ⟨fo, fcap, hr, _⟩ := h2
  refine ⟨h1.turns (Turns.setCell (fun k => k = w7.heap.size) _ _ _ rfl) (by omega), ?_, ?_⟩
  · refine ⟨none, 0, ?_, OwnV.nil _ _ _ _, hsz, fun a e => by cases e⟩
    have hr2 : ((w7.alloc (.cells #[.string m, .string gt, .int .i64 0, .slice none 0 0, .int .i64 0] 36)).setCell ⟨g, 1, none⟩ (.pointer (some ⟨w7.heap.size, 0, none⟩))).heap[w7.heap.size]? = some (.cells #[.string m, .string gt, .int .i64 0, .slice none 0 0, .int .i64 0] 36 (0, 0)) := by
      rw [heap_setCell_other _ _ _ _ (show w7.heap.size ≠ g by omega), heap_alloc_new]
    rw [heap_setCell_same _ _ 2 _ _ _ hr2]; rfl
  · refine h3.trans (Turns.setCell (fun k => w.heap.size ≤ k) _ _ _ hsz) (fun i e hi => by omega)

set_option maxRecDepth 100000 in
set_option maxHeartbeats 2000000 in
/-- just two blanks -/
theorem first_two (w : World) (g : Nat) (lp bd : Value) (t : ByteArray) (hP : PsAt w g lp (.pointer none) false bd 0) (ht : t.size ≤ 2000) (hv : ∀ b ∈ t.data.toList, Ch.visible b.toNat = true) (hc : t.data.toList.count 32 = 2) :
    Calls Tryz.prog 55 #[.pointer (some ⟨g, 0, none⟩), .string t] w fun e w' => FstOut w g lp bd t.data.toList e w' := by
  have hl : t.data.toList.length = t.size := by rw [Array.length_toList]; rfl
  obtain ⟨c1, c2, _⟩ := Rq.cut_three hc
  have hF := Rq.first_three hc
  obtain ⟨m, r, e1, hm, hr⟩ := cutV_at c1
  rw [← hr] at c2 hF
  obtain ⟨gt, v, e2, hg, hv2⟩ := cutV_at c2
  rw [← hm, ← hg, ← hv2] at hF
  have hrl : r.size ≤ 2000 := by
    have : r.data.toList.length = r.size := by rw [Array.length_toList]; rfl
    rw [hr, List.length_drop] at this; omega
  have hgl : gt.size ≤ 2000 := by
    have h1 : gt.data.toList.length = gt.size := by rw [Array.length_toList]; rfl
    have h2 : r.data.toList.length = r.size := by rw [Array.length_toList]; rfl
    rw [hg, List.length_take] at h1; omega
  have hml : m.size ≤ 2000 := by
    have h1 : m.data.toList.length = m.size := by rw [Array.length_toList]; rfl
    rw [hm, List.length_take] at h1; omega
  have hmem : ∀ b ∈ gt.data.toList, b ≠ 32 ∧ Ch.visible b.toNat = true := fun b hb => by
    have h32 : b ≠ 32 := by rw [hg] at hb; exact Rq.free_at b hb
    rw [hg] at hb
    have hb2 := List.mem_of_mem_take hb
    rw [hr] at hb2
    exact ⟨h32, hv b (List.mem_of_mem_drop hb2)⟩
  have hT := target_is (fun b hb => (hmem b hb).1) (fun b hb => (hmem b hb).2)
  have H1 := Hid.mk' (cut_one t 32 w (by unfold maxLen; omega))
  have H2 := Hid.mk' (fun W => cut_one r 32 W (by unfold maxLen; omega))
  have H3 := Hid.mk' (fun W => count_one t 32 W)
  rw [e1] at H1
  simp only [e2] at H2
  simp only [hc] at H3
  have HTk := Hid.mk' (fun W => isToken_any m W (by unfold maxLen; omega))
  have HTg := Hid.mk' (fun W => isTarget_any gt W (by omega))
  have HC1 := Hid.mk' (fun W => sclone_any m W (by omega))
  have HC2 := Hid.mk' (fun W => sclone_any gt W (by omega))
  have HP := Hid.mk' hP
  have HLt := Hid.mk' hP.lt
  have hv11 : (v.toList == [72, 84, 84, 80, 47, 49, 46, 49]) = decide (v.data.toList = [72, 84, 84, 80, 47, 49, 46, 49]) := by rw [Lib.toList_data, Bool.eq_iff_iff]; simp
  have hv10 : (v.toList == [72, 84, 84, 80, 47, 49, 46, 48]) = decide (v.data.toList = [72, 84, 84, 80, 47, 49, 46, 48]) := by rw [Lib.toList_data, Bool.eq_iff_iff]; simp
  have hv11' : (([72, 84, 84, 80, 47, 49, 46, 49] : List UInt8) == v.toList) = decide (v.data.toList = [72, 84, 84, 80, 47, 49, 46, 49]) := by rw [Lib.toList_data, Bool.eq_iff_iff, beq_iff_eq, decide_eq_true_eq]; exact eq_comm
  have hv10' : (([72, 84, 84, 80, 47, 49, 46, 48] : List UInt8) == v.toList) = decide (v.data.toList = [72, 84, 84, 80, 47, 49, 46, 48]) := by rw [Lib.toList_data, Bool.eq_iff_iff, beq_iff_eq, decide_eq_true_eq]; exact eq_comm
  unfold Rq.firstBy at hF
  simp only [hT] at HTg
  clear hm hr hg hv2 hmem hv hT c1 c2 e1 e2 hl hc hP ht hrl hgl hml
  cases htk : Ch.isToken m.data.toList
  · rw [htk, if_pos rfl] at hF
    rw [htk] at HTk
    have HF := Hid.mk' hF
    clear hF htk
    go_enter Tryz.func55, Tryz.ntmps55
    go_wp2_with fail
    refine H1.out.mono ?_
    rintro e w1 ⟨rfl, n1, rfl⟩
    go_wp2_with fail
    refine (H2.out _).mono ?_
    rintro e w2 ⟨rfl, n2, rfl⟩
    go_wp2_with fail
    refine (H3.out _).mono ?_
    rintro e w3 ⟨rfl, hw⟩
    subst hw
    go_wp2_with fail
    refine (HTk.out _).mono ?_
    rintro e w4 ⟨rfl, hw⟩
    subst hw
    go_wp2
    go_ret
    exact .bad 6 rfl HF.out (drewN_below ⟨_, rfl⟩)
  · rw [htk, if_neg (by simp)] at hF
    rw [htk] at HTk
    clear htk
    by_cases htg : gt.data.toList.head? ≠ some 47 ∨ 9 ∈ gt.data.toList
    · rw [if_pos htg] at hF
      rw [decide_eq_false (fun e => e htg)] at HTg
      have HF := Hid.mk' hF
      clear hF htg
      go_enter Tryz.func55, Tryz.ntmps55
      go_wp2_with fail
      refine H1.out.mono ?_
      rintro e w1 ⟨rfl, n1, rfl⟩
      go_wp2_with fail
      refine (H2.out _).mono ?_
      rintro e w2 ⟨rfl, n2, rfl⟩
      go_wp2_with fail
      refine (H3.out _).mono ?_
      rintro e w3 ⟨rfl, hw⟩
      subst hw
      go_wp2_with fail
      refine (HTk.out _).mono ?_
      rintro e w4 ⟨rfl, hw⟩
      subst hw
      go_wp2_with fail
      refine (HTg.out _).mono ?_
      rintro e w5 ⟨rfl, hb5⟩
      have HB5 := Hid.mk' ((drewN_below ⟨_, rfl⟩).trans (hb5.mono (Nat.le_refl _)))
      clear hb5
      go_wp2
      go_ret
      exact .bad 5 rfl HF.out HB5.out
    · rw [if_neg htg] at hF
      rw [decide_eq_true htg] at HTg
      clear htg
      by_cases h11 : v.data.toList = [72, 84, 84, 80, 47, 49, 46, 49]
      · rw [if_pos h11] at hF
        rw [decide_eq_true h11] at hv11 hv11'
        have HF := Hid.mk' hF
        clear hF h11 hv10 hv10'
        go_enter Tryz.func55, Tryz.ntmps55
        go_wp2_with fail
        refine H1.out.mono ?_
        rintro e w1 ⟨rfl, n1, rfl⟩
        go_wp2_with fail
        refine (H2.out _).mono ?_
        rintro e w2 ⟨rfl, n2, rfl⟩
        go_wp2_with fail
        refine (H3.out _).mono ?_
        rintro e w3 ⟨rfl, hw⟩
        subst hw
        go_wp2_with fail
        refine (HTk.out _).mono ?_
        rintro e w4 ⟨rfl, hw⟩
        subst hw
        go_wp2_with fail
        refine (HTg.out _).mono ?_
        rintro e w5 ⟨rfl, hb5⟩
        have HB5 := Hid.mk' ((drewN_below ⟨_, rfl⟩).trans (hb5.mono (Nat.le_refl _)))
        clear hb5
        go_wp2_with fail
        refine (HC1.out _).mono ?_
        rintro e w6 ⟨rfl, hb6⟩
        have HB6 := Hid.mk' (then_ HB5.out hb6)
        clear hb6 HB5
        go_wp2_with fail
        refine (HC2.out _).mono ?_
        rintro e w7 ⟨rfl, hb7⟩
        have HB7 := Hid.mk' (then_ HB6.out hb7)
        have HP7 := Hid.mk' (HP.out.stay HB7.out)
        have f1 := (HP7.out.stay ((Below.refl _ w7).alloc (Nat.le_refl _) (.cells #[.string m, .string gt, .int .i64 0, .slice none 0 0, .int .i64 0] 36))).fz 1
        have k1 := (HP7.out.stay ((Below.refl _ w7).alloc (Nat.le_refl _) (.cells #[.string m, .string gt, .int .i64 0, .slice none 0 0, .int .i64 0] 36))).c1
        clear hb7 HB6
        have k2 := (first_out (m := m) (gt := gt) HP7.out HB7.out HLt.out).1.c1
        go_wp2
        go_ret
        obtain ⟨o1, o2, o3⟩ := first_one (m := m) (gt := gt) HP7.out HB7.out HLt.out
        exact .ok _ w7.heap.size rfl HF.out o1 o2 o3
      · rw [if_neg h11] at hF
        rw [decide_eq_false h11] at hv11 hv11'
        by_cases h10 : v.data.toList = [72, 84, 84, 80, 47, 49, 46, 48]
        · rw [if_pos h10] at hF
          rw [decide_eq_true h10] at hv10 hv10'
          have HF := Hid.mk' hF
          clear hF h11 h10
          go_enter Tryz.func55, Tryz.ntmps55
          go_wp2_with fail
          refine H1.out.mono ?_
          rintro e w1 ⟨rfl, n1, rfl⟩
          go_wp2_with fail
          refine (H2.out _).mono ?_
          rintro e w2 ⟨rfl, n2, rfl⟩
          go_wp2_with fail
          refine (H3.out _).mono ?_
          rintro e w3 ⟨rfl, hw⟩
          subst hw
          go_wp2_with fail
          refine (HTk.out _).mono ?_
          rintro e w4 ⟨rfl, hw⟩
          subst hw
          go_wp2_with fail
          refine (HTg.out _).mono ?_
          rintro e w5 ⟨rfl, hb5⟩
          have HB5 := Hid.mk' ((drewN_below ⟨_, rfl⟩).trans (hb5.mono (Nat.le_refl _)))
          clear hb5
          go_wp2_with fail
          refine (HC1.out _).mono ?_
          rintro e w6 ⟨rfl, hb6⟩
          have HB6 := Hid.mk' (then_ HB5.out hb6)
          clear hb6 HB5
          go_wp2_with fail
          refine (HC2.out _).mono ?_
          rintro e w7 ⟨rfl, hb7⟩
          have HB7 := Hid.mk' (then_ HB6.out hb7)
          have HP7 := Hid.mk' (HP.out.stay HB7.out)
          have f1 := (HP7.out.stay ((Below.refl _ w7).alloc (Nat.le_refl _) (.cells #[.string m, .string gt, .int .i64 0, .slice none 0 0, .int .i64 0] 36))).fz 1
          have k1 := (HP7.out.stay ((Below.refl _ w7).alloc (Nat.le_refl _) (.cells #[.string m, .string gt, .int .i64 0, .slice none 0 0, .int .i64 0] 36))).c1
          clear hb7 HB6
          go_wp2
          go_ret
          obtain ⟨o1, o2, o3⟩ := first_out (m := m) (gt := gt) HP7.out HB7.out HLt.out
          exact .ok _ w7.heap.size rfl HF.out o1 o2 o3
        · rw [if_neg h10] at hF
          rw [decide_eq_false h10] at hv10 hv10'
          have HF := Hid.mk' hF
          clear hF h11 h10
          go_enter Tryz.func55, Tryz.ntmps55
          go_wp2_with fail
          refine H1.out.mono ?_
          rintro e w1 ⟨rfl, n1, rfl⟩
          go_wp2_with fail
          refine (H2.out _).mono ?_
          rintro e w2 ⟨rfl, n2, rfl⟩
          go_wp2_with fail
          refine (H3.out _).mono ?_
          rintro e w3 ⟨rfl, hw⟩
          subst hw
          go_wp2_with fail
          refine (HTk.out _).mono ?_
          rintro e w4 ⟨rfl, hw⟩
          subst hw
          go_wp2_with fail
          refine (HTg.out _).mono ?_
          rintro e w5 ⟨rfl, hb5⟩
          have HB5 := Hid.mk' ((drewN_below ⟨_, rfl⟩).trans (hb5.mono (Nat.le_refl _)))
          clear hb5
          go_wp2
          go_ret
          exact .bad 11 rfl HF.out HB5.out
theorem first_any (w : World) (g : Nat) (lp bd : Value) (t : ByteArray) (hP : PsAt w g lp (.pointer none) false bd 0) (ht : t.size ≤ 2000) (hv : ∀ b ∈ t.data.toList, Ch.visible b.toNat = true) :
    Calls Tryz.prog 55 #[.pointer (some ⟨g, 0, none⟩), .string t] w fun e w' => FstOut w g lp bd t.data.toList e w' := by
  by_cases hc : t.data.toList.count 32 = 2
  · exact first_two w g lp bd t hP ht hv hc
  · exact first_form w g lp bd t ht hc
end Go.Proofs.YtbcmlolaihnalacGreatDoor

/- Package request, walked: a head's field. -/
namespace Go.Proofs.YtbcmlolaihnalacGreatDoor
open Go.RowKit

theorem info_fld : (Tryz.prog.info? 43).map (fun i => (i.zero, i.size, i.bytes)) = some (some (.agg #[.string ⟨#[]⟩, .string ⟨#[]⟩]), 2, 32) := by kernel_rfl

/-- as many as may be -/
theorem field_many (w : World) (g gh : Nat) (lp bd : Value) (S : Nat → Prop) (h : Rq.Hd) (t : ByteArray) (hP : PsAt w g lp (.pointer (some ⟨gh, 0, none⟩)) false bd 0) (hH : HeadAt w S gh h) (hn : h.fields.length = 16) :
    Calls Tryz.prog 57 #[.pointer (some ⟨g, 0, none⟩), .string t] w fun e w' => e = .returned (.int .i64 8) ∧ w' = w := by
  obtain ⟨fo, fcap, hr, ho, h1, h2⟩ := hH
  have c1 := hP.c1
  have c3 : w.cell? ⟨gh, 3, none⟩ = some (.slice fo 16 fcap) := by rw [cell_of_row w gh 3 _ _ _ hr]; simp [hn]
  clear hP hr ho hn
  go_enter Tryz.func57, Tryz.ntmps57
  go_wp2
  go_ret
  exact ⟨rfl, rfl⟩

set_option maxHeartbeats 1000000 in
/-- no field -/
theorem field_bad (w : World) (g gh : Nat) (lp bd : Value) (S : Nat → Prop) (h : Rq.Hd) (t : ByteArray) (hP : PsAt w g lp (.pointer (some ⟨gh, 0, none⟩)) false bd 0) (hH : HeadAt w S gh h) (hn : h.fields.length ≠ 16) (ht : t.size ≤ 2000) (hc : (Fd.of t.data.toList).code ≠ 0) :
    Calls Tryz.prog 57 #[.pointer (some ⟨g, 0, none⟩), .string t] w fun e w' => e = .returned (.int .i64 ((Fd.of t.data.toList).code : Int)) ∧ Below w.heap.size w w' := by
  obtain ⟨fo, fcap, hr, ho, h1, h2⟩ := hH
  have c1 := hP.c1
  have c3 : w.cell? ⟨gh, 3, none⟩ = some (.slice fo h.fields.length fcap) := cell_of_row w gh 3 _ _ _ hr
  have t16 : ((h.fields.length : Int) == 16) = false := beq_eq_false_iff_ne.2 (by omega)
  have HP := Hid.mk' (parse_any t w ht)
  unfold Fd.val at HP
  have tc : (((Fd.of t.data.toList).code : Int) == 0) = false := beq_eq_false_iff_ne.2 (by omega)
  generalize (Fd.of t.data.toList).code = cc at *
  generalize (⟨(Fd.of t.data.toList).name.toArray⟩ : ByteArray) = nm at *
  generalize (⟨(Fd.of t.data.toList).value.toArray⟩ : ByteArray) = vl at *
  generalize h.fields.length = nn at *
  clear hP hr ho hn hc
  go_enter Tryz.func57, Tryz.ntmps57
  go_wp2_with fail
  refine HP.out.mono ?_
  rintro e w1 ⟨rfl, hB⟩
  have HB := Hid.mk' hB
  clear hB
  go_wp2
  go_ret
  refine ⟨rfl, ?_⟩
  exact HB.out.trans ((Below.refl _ _).alloc HB.out.size _)

/-- a field more, laid into its head -/
theorem field_out {w W w3 : World} {S : Nat → Prop} {g gh n fcap g3 cap3 : Nat} {lp bd : Value} {fo : Option Addr} {h : Rq.Hd} {nm vl : ByteArray}
    (hP : PsAt w g lp (.pointer (some ⟨gh, 0, none⟩)) false bd 0) (hg : ¬ S g)
    (hr : w.heap[gh]? = some (.cells #[.string ⟨h.method.toArray⟩, .string ⟨h.target.toArray⟩, .int .i64 (h.minor : Int), .slice fo n fcap, .int .i64 h.length] 36 (0, 0)))
    (ho : OwnV w 0 43 2 fo fcap n (pairV (Rq.flT h.fields))) (hn : h.fields.length = n) (h1 : S gh) (h2 : ∀ a, fo = some a → S a.block)
    (hB : Below w.heap.size w W) (hG : W.grownBy w3 (Value.slice fo n fcap).ownBlock)
    (hO : w3.ownsRow 0 43 2 (.slice (some ⟨g3, 0, none⟩) (n + 1) cap3) (n + 1) (pairV (Rq.flT h.fields) ++ [.string nm, .string vl]))
    (hA : (Value.slice fo n fcap).ownBlock = some g3 ∨ w.heap.size ≤ g3) :
    PsAt (w3.setCell ⟨gh, 3, none⟩ (.slice (some ⟨g3, 0, none⟩) (n + 1) cap3)) g lp (.pointer (some ⟨gh, 0, none⟩)) false bd 0 ∧
    HeadAt (w3.setCell ⟨gh, 3, none⟩ (.slice (some ⟨g3, 0, none⟩) (n + 1) cap3)) (orNew S w) gh { h with fields := h.fields ++ [(nm.data.toList, vl.data.toList)] } ∧
    Turns S w (w3.setCell ⟨gh, 3, none⟩ (.slice (some ⟨g3, 0, none⟩) (n + 1) cap3)) := by
  rw [ownBlock_slice] at hG hA
  have hT1 : Turns (fun k => blockOf fo = some k) w w3 := (Turns.of_below (S := fun k => blockOf fo = some k) hB).trans (Turns.of_grown hG (fun k e => e)) (fun _ e _ => e)
  have hbs : ∀ k, blockOf fo = some k → S k ∧ k ≠ gh := fun k e => by
    cases fo with
    | none => cases e
    | some a => injection e with e; subst e; exact ⟨h2 a rfl, fields_ne hr ho a rfl⟩
  have hgh : gh ≠ g := fun e => hg (e ▸ h1)
  have hr3 := hT1.row hr (fun e => (hbs gh e).2 rfl)
  have hT : Turns S w (w3.setCell ⟨gh, 3, none⟩ (.slice (some ⟨g3, 0, none⟩) (n + 1) cap3)) := (hT1.mono (fun k e => (hbs k e).1)).trans (Turns.setCell S _ _ _ h1) (fun _ e _ => e)
  have hg3 : gh ≠ g3 := fun e => by
    subst e
    rcases hA with hA | hA
    · exact (hbs _ hA).2 rfl
    · have := (Array.getElem?_eq_some_iff.1 hr).1; omega
  refine ⟨hP.turns hT hg, ⟨some ⟨g3, 0, none⟩, cap3, ?_, ?_, Or.inl h1, fun a e => ?_⟩, hT⟩
  · rw [heap_setCell_same _ _ 3 _ _ _ hr3]
    simp [hn]
  · have e1 : pairV (Rq.flT (h.fields ++ [(nm.data.toList, vl.data.toList)])) = pairV (Rq.flT h.fields) ++ [.string nm, .string vl] := by
      rw [Rq.flT_append, pairV_append]; rfl
    show OwnV _ _ _ _ _ _ (h.fields ++ [(nm.data.toList, vl.data.toList)]).length (pairV (Rq.flT (h.fields ++ [(nm.data.toList, vl.data.toList)])))
    rw [e1, List.length_append, hn]
    have hO' : OwnV w3 0 43 2 (some ⟨g3, 0, none⟩) cap3 (n + 1) (pairV (Rq.flT h.fields) ++ [.string nm, .string vl]) := hO
    exact hO'.turns (Turns.setCell (fun k => k = gh) w3 _ _ rfl) (fun a e e2 => by injection e with e; subst e; exact hg3 e2.symm)
  · injection e with e; subst e
    rcases hA with hA | hA
    · exact Or.inl (hbs _ hA).1
    · exact Or.inr hA

set_option maxRecDepth 100000 in
set_option maxHeartbeats 4000000 in
/-- a field -/
theorem field_ok (w : World) (g gh : Nat) (lp bd : Value) (S : Nat → Prop) (h : Rq.Hd) (t : ByteArray) (hP : PsAt w g lp (.pointer (some ⟨gh, 0, none⟩)) false bd 0) (hH : HeadAt w S gh h) (hg : ¬ S g) (hn : h.fields.length < 16) (ht : t.size ≤ 2000) (hc : (Fd.of t.data.toList).code = 0) :
    Calls Tryz.prog 57 #[.pointer (some ⟨g, 0, none⟩), .string t] w fun e w' => e = .returned (.int .i64 0) ∧ PsAt w' g lp (.pointer (some ⟨gh, 0, none⟩)) false bd 0 ∧ HeadAt w' (orNew S w) gh { h with fields := h.fields ++ [((Fd.of t.data.toList).name, (Fd.of t.data.toList).value)] } ∧ Turns S w w' := by
  obtain ⟨fo, fcap, hr, ho, h1, h2⟩ := hH
  have c1 := hP.c1
  have HPr := Hid.mk' (parse_any t w ht)
  unfold Fd.val at HPr
  rw [hc] at HPr
  obtain ⟨nm, hnm⟩ : ∃ nm : ByteArray, (⟨(Fd.of t.data.toList).name.toArray⟩ : ByteArray) = nm := ⟨_, rfl⟩
  obtain ⟨vl, hvl⟩ : ∃ vl : ByteArray, (⟨(Fd.of t.data.toList).value.toArray⟩ : ByteArray) = vl := ⟨_, rfl⟩
  have e1 : (Fd.of t.data.toList).name = nm.data.toList := by rw [← hnm]
  have e2 : (Fd.of t.data.toList).value = vl.data.toList := by rw [← hvl]
  rw [hnm, hvl] at HPr
  rw [e1, e2]
  obtain ⟨n, hfn⟩ : ∃ n, h.fields.length = n := ⟨_, rfl⟩
  rw [hfn] at hr ho hn
  have hlt : n * 2 ≤ 32 := by omega
  have c3 : w.cell? ⟨gh, 3, none⟩ = some (.slice fo n fcap) := cell_of_row w gh 3 _ _ _ hr
  have t16 : ((n : Int) == 16) = false := beq_eq_false_iff_ne.2 (by omega)
  have hgh : gh ≠ g := fun e => hg (e ▸ h1)
  have hK : ∀ W, Below w.heap.size w W → W.cell? ⟨g, 1, none⟩ = some (.pointer (some ⟨gh, 0, none⟩)) ∧ W.cell? ⟨gh, 3, none⟩ = some (.slice fo n fcap) := fun W hW =>
    ⟨(hW.cell (World.block_lt_of_cell? w _ c1)).trans c1, (hW.cell (World.block_lt_of_cell? w _ c3)).trans c3⟩
  have hK2 : ∀ W W3, Below w.heap.size w W → W.grownBy W3 (Value.slice fo n fcap).ownBlock → W3.cell? ⟨g, 1, none⟩ = some (.pointer (some ⟨gh, 0, none⟩)) ∧ W3.cell? ⟨gh, 3, none⟩ = some (.slice fo n fcap) ∧ W3.frozen? ⟨gh, 3, none⟩ = false := fun W W3 hW hG => by
    rw [ownBlock_slice] at hG
    have hne : ∀ k, (k = g ∨ k = gh) → some k ≠ blockOf fo := fun k hk e => by
      cases fo with
      | none => cases e
      | some a =>
        injection e with e
        rcases hk with rfl | rfl
        · exact hg (e ▸ h2 a rfl)
        · exact fields_ne hr ho a rfl e.symm
    have hr3 : W3.heap[gh]? = _ := (hG.block gh (Array.getElem?_eq_some_iff.1 ((hW.block gh (Array.getElem?_eq_some_iff.1 hr).1).trans hr)).1 (hne gh (Or.inr rfl))).trans ((hW.block gh (Array.getElem?_eq_some_iff.1 hr).1).trans hr)
    exact ⟨hG.cell (hK W hW).1 (hne g (Or.inl rfl)), hG.cell (hK W hW).2 (hne gh (Or.inr rfl)), frozen_of_row _ _ _ _ _ hr3⟩
  have HK := Hid.mk' hK; have HK2 := Hid.mk' hK2
  have HO := Hid.mk' ho
  have HE := Hid.mk' (And.intro hP (And.intro hg (And.intro hr (And.intro ho (And.intro hfn (And.intro h1 h2))))))
  obtain ⟨i0, hi0, hz0, hz1, hz2⟩ := info_parts info_fld
  have Hi := Hid.mk' hi0; have Hz0 := Hid.mk' hz0; have Hz1 := Hid.mk' hz1; have Hz2 := Hid.mk' hz2
  have HN : Hid (n + 1 ≤ maxLen ∧ (n + 1) * 32 ≤ 140737488355328) := ⟨by unfold maxLen; omega, by omega⟩
  clear hi0 hz0 hz1 hz2 hP hr ho hK hK2 hg h1 h2 hc hnm hvl e1 e2 hfn
  go_enter Tryz.func57, Tryz.ntmps57
  go_wp2_with fail
  refine HPr.out.mono ?_
  rintro e w1 ⟨rfl, hB⟩
  have hB0 : Below w.heap.size w (w1.alloc (.cells #[.string nm, .string vl] 43)) := hB.trans ((Below.refl _ _).alloc hB.size _)
  have hB1 : Below w.heap.size w ((w1.alloc (.cells #[.string nm, .string vl] 43)).alloc (.cells #[.string nm, .string vl] 43)) := hB0.trans ((Below.refl _ _).alloc hB0.size _)
  have hB2 : Below w.heap.size w ((w1.alloc (.cells #[.string nm, .string vl] 43)).alloc (.cells #[.string nm, .string vl] 43)).drew := hB1.trans ⟨rfl, rfl, rfl, Nat.le_refl _, fun _ _ => rfl⟩
  have k1 := (HK.out _ hB0).1
  have k3 := (HK.out _ hB0).2
  have j1 := (HK.out _ hB1).1
  have j3 := (HK.out _ hB1).2
  have HB2 := Hid.mk' hB2
  have HOw := Hid.mk' (OwnV.below HO.out hB2 (fun a e => (HO.out.block a e).2))
  have HNw : Hid (∀ j u, ([.string nm, .string vl] : List Value)[j]? = some u → ((w1.alloc (.cells #[.string nm, .string vl] 43)).alloc (.cells #[.string nm, .string vl] 43)).drew.cell? (Addr.add ⟨w1.heap.size + 1, 0, none⟩ j) = some u) := fun j u hu => by
    rw [Addr.add_lit, Nat.zero_add]
    show ((w1.alloc (.cells #[.string nm, .string vl] 43)).alloc (.cells #[.string nm, .string vl] 43)).cell? _ = _
    rw [World.cell?_alloc_at _ _ _ _ (by simp), List.getElem?_toArray]
    exact hu
  have HS := Hid.mk' hB.size
  clear hB hB0 hB1 hB2 c1 c3
  go_wp2
  go_region_law
    ((refine step_append_lies _ (by rfl) _ _ _ (by rfl) 0 43 i0 (.agg #[.string ⟨#[]⟩, .string ⟨#[]⟩]) 2 32 Tryz.underlying34 Hi.out Hz0.out Hz1.out Hz2.out (by rfl) (by decide) (.slice fo n fcap) n _ (by rfl) HOw.out ⟨w1.heap.size + 1, 0, none⟩ 1 1 [.string nm, .string vl] (by rfl) (by rfl) HNw.out (fun u hu => by simp at hu; rcases hu with rfl | rfl <;> rfl) (by decide) HN.out.1 HN.out.2 (Nat.zero_le _) (w1.heap.size + 2) (by simp) ?_; intro g3 cap3 w3 hown3 hgrow hat3 hlt3; have HG3 := Hid.mk' hgrow; have HO3 := Hid.mk' hown3; have HA3 := Hid.mk' hat3; have q1 := (HK2.out _ _ HB2.out hgrow).1; have q3 := (HK2.out _ _ HB2.out hgrow).2.1; have qf := (HK2.out _ _ HB2.out hgrow).2.2; clear hgrow hown3 hat3))
  all_goals (go_wp2; go_ret; refine ⟨rfl, ?_⟩; exact field_out HE.out.1 HE.out.2.1 HE.out.2.2.1 HE.out.2.2.2.1 HE.out.2.2.2.2.1 HE.out.2.2.2.2.2.1 HE.out.2.2.2.2.2.2 HB2.out HG3.out HO3.out (HA3.out.imp (fun e => e) (fun e => by have := HS.out; omega)))
end Go.Proofs.YtbcmlolaihnalacGreatDoor
