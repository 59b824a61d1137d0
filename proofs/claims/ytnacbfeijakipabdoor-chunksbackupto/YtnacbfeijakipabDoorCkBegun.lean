/- The one input that the statements of chunks try first, walked. -/
import Derived.Test.YtnacbfeijakipabDoorPk14
import Derived.Test.YtnacbfeijakipabDoorCkText
import Derived.Deep.RegionHeld3
import Derived.Lib.SlBytesConst
namespace Go.Proofs.YtnacbfeijakipabDoor
open Go.RowKit

/-- made behind world w0: the reader at block g, and apart from it block q -/
structure CkBy (w0 : World) (g : Nat) (s : Ck.St) (q : Nat) (o : Obj) (wr : World) : Prop where
  rd : ∃ S, CkAt wr S g s ∧ ¬ S q ∧ ∀ i, S i → w0.heap.size ≤ i
  good : Ck.Good s
  row : wr.heap[q]? = some o
  below : Below w0.heap.size w0 wr
theorem CkIn.by_ {w0 : World} {g : Nat} {s : Ck.St} {wr : World} (h : CkIn w0 g s none 0 [] wr) (o : Obj) : CkBy w0 g s wr.heap.size o (wr.alloc o) := by
  obtain ⟨S, hC, _, hS⟩ := h.rd
  refine ⟨⟨fun k => S k ∧ k < wr.heap.size, (hC.mono (fun k hk e => ⟨e, hk⟩)).turns (Turns.of_below (S := fun _ => False) ((Below.refl _ _).alloc (Nat.le_refl _) o)) (fun _ _ e => e), fun e => by omega, fun i e => hS i e.1⟩, h.good, heap_alloc_new wr o, h.below.trans ((Below.refl _ _).alloc h.below.size o)⟩
theorem CkBy.feed {w0 : World} {g : Nat} {s : Ck.St} {q : Nat} {o : Obj} {wr : World} (h : CkBy w0 g s q o wr) (c : UInt8) (ci : Int) (hci : (c.toNat : Int) = ci) :
    Calls Tryd.prog 23 #[.pointer (some ⟨g, 0, none⟩), .int .u8 ci] wr fun e w' => ∃ bo bc, e = .returned (.tuple #[.slice bo (Ck.out s c).length bc, .bool (Ck.over s c), .int .i64 ((Ck.next s c).code : Int)]) ∧ CkBy w0 g (Ck.next s c) q o w' := by
  subst hci
  obtain ⟨S, hC, ha, hS⟩ := h.rd
  refine (feedChunks_any wr S g s c hC h.good).mono ?_
  rintro e w' ⟨bo, bc, he, hI, hC', hT⟩
  subst he
  have hsz := h.below.size
  have hlt : q < wr.heap.size := (Array.getElem?_eq_some_iff.1 h.row).1
  refine ⟨bo, bc, rfl, ⟨⟨orNew S wr, hC', fun k => ?_, fun i k => ?_⟩, h.good.next c, hT.row h.row ha, h.below.trans (hT.below hS hsz)⟩⟩
  · rcases k with k | k
    · exact ha k
    · omega
  · rcases k with k | k
    · exact hS i k
    · omega
def begB : List UInt8 := [49, 13, 10, 120, 13, 10, 48, 13, 10, 13, 10]
theorem begB_text : Ck.text [[120]] = begB := by decide +kernel
theorem begB_over : (Ck.next (Ck.fold Ck.start begB) 48).code = 18 := by
  have h1 := Ck.back_at [[120]] (by decide) 10 (by decide)
  decide +kernel

/-- the text of the eleven bytes -/
theorem begB_str (q : Nat) (W : World) : W.cell? ⟨q, 0, none⟩ = some (.int .u8 49) → W.cell? ⟨q, 1, none⟩ = some (.int .u8 13) → W.cell? ⟨q, 2, none⟩ = some (.int .u8 10) → W.cell? ⟨q, 3, none⟩ = some (.int .u8 120) → W.cell? ⟨q, 4, none⟩ = some (.int .u8 13) → W.cell? ⟨q, 5, none⟩ = some (.int .u8 10) → W.cell? ⟨q, 6, none⟩ = some (.int .u8 48) → W.cell? ⟨q, 7, none⟩ = some (.int .u8 13) → W.cell? ⟨q, 8, none⟩ = some (.int .u8 10) → W.cell? ⟨q, 9, none⟩ = some (.int .u8 13) → W.cell? ⟨q, 10, none⟩ = some (.int .u8 10) →
    (convert 36 9 (.slice (some ⟨q, 0, none⟩) 11 11)).run Tryd.prog W = .ok (.string ⟨#[49, 13, 10, 120, 13, 10, 48, 13, 10, 13, 10]⟩) W := by
  intro c0 c1 c2 c3 c4 c5 c6 c7 c8 c9 c10
  have hI : IsB W (some ⟨q, 0, none⟩) 11 begB := by
    refine ⟨by decide, (fun e => by cases e), fun j hj => ⟨_, rfl, ?_⟩⟩
    rw [Addr.add_lit, Nat.zero_add]
    have hj' : j < 11 := hj
    match j, hj' with
    | 0, _ => exact c0
    | 1, _ => exact c1
    | 2, _ => exact c2
    | 3, _ => exact c3
    | 4, _ => exact c4
    | 5, _ => exact c5
    | 6, _ => exact c6
    | 7, _ => exact c7
    | 8, _ => exact c8
    | 9, _ => exact c9
    | 10, _ => exact c10
  exact hI.str (P := Tryd.prog) 36 9 5 Tryd.underlying36 Tryd.underlying5 Tryd.underlying9
/-- Write of the one list that holds the one byte, just made -/
theorem write_x (w W : World) (hW : Below w.heap.size w W) (hT : TzAt w) (k k' : Nat) (hk : W.heap.size = k) (hk' : k' = k + 1) :
    Calls Tryd.prog 19 #[.slice (some ⟨k', 0, none⟩) 1 1] ((W.alloc (.cells #[.int .u8 120] 5 (1, 2))).alloc (.cells #[.slice (some ⟨k, 0, none⟩) 1 1] 36)) fun e w' => ∃ ao ca, e = .returned (.slice ao 11 ca) ∧ (convert 36 9 (.slice ao 11 ca)).run Tryd.prog w' = .ok (.string ⟨#[49, 13, 10, 120, 13, 10, 48, 13, 10, 13, 10]⟩) w' ∧ Below W.heap.size W w' := by
  subst hk; subst hk'
  have b1 : Below W.heap.size W (W.alloc (.cells #[.int .u8 120] 5 (1, 2))) := (Below.refl _ _).alloc (Nat.le_refl _) _
  have b2 : Below W.heap.size W ((W.alloc (.cells #[.int .u8 120] 5 (1, 2))).alloc (.cells #[.slice (some ⟨W.heap.size, 0, none⟩) 1 1] 36)) := b1.alloc b1.size _
  have hI : IsB ((W.alloc (.cells #[.int .u8 120] 5 (1, 2))).alloc (.cells #[.slice (some ⟨W.heap.size, 0, none⟩) 1 1] 36)) (some ⟨W.heap.size, 0, none⟩) 1 [120] := (IsB.one W 120 _ _).alloc _
  have hL : IsL ((W.alloc (.cells #[.int .u8 120] 5 (1, 2))).alloc (.cells #[.slice (some ⟨W.heap.size, 0, none⟩) 1 1] 36)) (some ⟨W.heap.size + 1, 0, none⟩) 1 [[120]] := by
    refine ⟨Nat.le_refl _, (fun e => by cases e), fun j hj => ?_⟩
    obtain rfl : j = 0 := by simp at hj; exact hj
    refine ⟨_, some ⟨W.heap.size, 0, none⟩, 1, rfl, ?_, hI⟩
    have := World.cell?_alloc_mark (W.alloc (.cells #[.int .u8 120] 5 (1, 2))) #[.slice (some ⟨W.heap.size, 0, none⟩) 1 1] 36 (0, 0) 0
    rw [World.size_alloc] at this
    exact this
  refine (write_any _ _ 1 [[120]] hL (by decide) (by decide) (hT.stay (hW.trans (b2.mono hW.size)))).mono ?_
  rintro e w' ⟨ao, ca, he, hO, hB⟩
  subst he
  rw [begB_text] at hO ⊢
  exact ⟨ao, ca, rfl, hO.isB.str (P := Tryd.prog) 36 9 5 Tryd.underlying36 Tryd.underlying5 Tryd.underlying9, b2.trans (hB.mono b2.size)⟩

set_option maxRecDepth 100000 in
set_option maxHeartbeats 1600000 in
theorem chunksBegun_any (w : World) (hT : TzAt w) :
    Calls Tryd.prog 17 #[] w fun e w' => e = .returned (.bool true) ∧ Below w.heap.size w w' := by
  have HT := Hid.mk' hT
  have HN := Hid.mk' (newCk_in w)
  clear hT
  have HA := Hid.mk' (fun (i : Nat) (hi : i < begB.length) => (show (Ck.next (Ck.fold Ck.start (begB.take i)) begB[i]).code = 0 ∧ Ck.over (Ck.fold Ck.start (begB.take i)) begB[i] = decide (i + 1 = 11) from by
    have := Ck.back_at [[120]] (by decide) i (by rw [begB_text]; exact hi)
    simp only [begB_text] at this
    exact this))
  have HTk := Hid.mk' (fun (i : Nat) (hi : i < begB.length) => Ck.take_at begB i hi)
  have HO : Hid ((Ck.outs Ck.start begB).length = 1) := by
    have := Ck.back_body [[120]] (by decide)
    rw [begB_text] at this
    unfold Hid
    rw [this]; rfl
  have HE := Hid.mk' begB_over
  have hbl : begB.length = 11 := rfl
  go_enter Tryd.func17, Tryd.ntmps17
  go_wp2_with fail
  refine HN.out.mono ?_
  rintro e w1 ⟨g, rfl, hC⟩
  have HC := Hid.mk' (hC.by_ (.cells #[.int .u8 49, .int .u8 13, .int .u8 10, .int .u8 120, .int .u8 13, .int .u8 10, .int .u8 48, .int .u8 13, .int .u8 10, .int .u8 13, .int .u8 10] 5 (11, 12)))
  have kc := fun (w : World) (C : Array Value) (n c : Nat) => Lib.run_convert_bytes_const (P := Tryd.prog) w 36 5 C n c Tryd.underlying36 Tryd.underlying5
  clear hC HN
  go_wp2
  generalize hq : w1.heap.size = q at *
  clear hq
  go_loopw [3, 4] (fun vn vi wr => ∃ i : Nat, i ≤ 11 ∧ vi = .int .i64 i ∧ vn = .int .i64 ((Ck.outs Ck.start (begB.take i)).length : Int) ∧ CkBy w g (Ck.fold Ck.start (begB.take i)) q (.cells #[.int .u8 49, .int .u8 13, .int .u8 10, .int .u8 120, .int .u8 13, .int .u8 10, .int .u8 48, .int .u8 13, .int .u8 10, .int .u8 13, .int .u8 10] 5 (11, 12)) wr) (fun _ vi _ => 11 - (intOf vi).toNat)
  case atStart => exact ⟨0, by omega, rfl, rfl, HC.out⟩
  case round =>
    clear HC
    obtain ⟨i, hi, rfl, rfl, hK⟩ := hrel
    have HK := Hid.mk' hK
    clear hK
    by_cases hlt : i < 11
    · have hc : wr.cell? ⟨q, i, none⟩ = some (.int .u8 (begB[i].toNat : Int)) := by
        have := cell_of_row wr q i _ _ _ HK.out.row
        refine this.trans ?_
        show (byteV begB).toArray[i]? = _
        rw [List.getElem?_toArray]
        exact byteV_at begB i hlt
      obtain ⟨ha1, ha2⟩ := HA.out i hlt
      obtain ⟨ht1, ht2⟩ := HTk.out i hlt
      have HF := Hid.mk' (HK.out.feed begB[i] _ rfl)
      have hol := Ck.outs_le (begB.take i) Ck.start
      rw [List.length_take, hbl] at hol
      have ho1 := Ck.out_len (Ck.fold Ck.start (begB.take i)) begB[i]
      rw [ha1, ha2] at HF
      have HT1 := Hid.mk' ht1; have HT2 := Hid.mk' ht2
      clear ha1 ha2 ht1 ht2 HK
      generalize begB[i] = c at *
      generalize hd : decide (i + 1 = 11) = dl at *
      have tl : ((i : Int) == 10) = dl := by rw [← hd]; rw [Bool.eq_iff_iff]; simp; omega
      clear hd
      go_wp2_with fail
      refine HF.out.mono ?_
      rintro e w2 ⟨bo, bc, rfl, hK2⟩
      have HK2 := Hid.mk' hK2
      clear hK2 HF
      cases dl
      · go_wp2
        go_roundw
        case rel => exact ⟨i + 1, by omega, by go_num, by rw [HT2.out, List.length_append]; go_num, by rw [HT1.out]; exact HK2.out⟩
        case measure => simp [intOf]; omega
      · go_wp2
        go_roundw
        case rel => exact ⟨i + 1, by omega, by go_num, by rw [HT2.out, List.length_append]; go_num, by rw [HT1.out]; exact HK2.out⟩
        case measure => simp [intOf]; omega
    · obtain rfl : i = 11 := by omega
      have e11 : begB.take 11 = begB := rfl
      rw [e11] at HK ⊢
      have HF := Hid.mk' (HK.out.feed 48 48 rfl)
      rw [HE.out] at HF
      rw [HO.out]
      clear HK e11 HO HE HA HTk
      go_wp2_with fail
      refine HF.out.mono ?_
      rintro e w2 ⟨bo, bc, rfl, hK2⟩
      have HK2 := Hid.mk' hK2
      clear hK2 HF
      go_wp2
      have c0 : w2.cell? ⟨q, 0, none⟩ = some (.int .u8 49) := cell_of_row w2 q 0 _ _ _ HK2.out.row
      have c1 : w2.cell? ⟨q, 1, none⟩ = some (.int .u8 13) := cell_of_row w2 q 1 _ _ _ HK2.out.row
      have c2 : w2.cell? ⟨q, 2, none⟩ = some (.int .u8 10) := cell_of_row w2 q 2 _ _ _ HK2.out.row
      have c3 : w2.cell? ⟨q, 3, none⟩ = some (.int .u8 120) := cell_of_row w2 q 3 _ _ _ HK2.out.row
      have c4 : w2.cell? ⟨q, 4, none⟩ = some (.int .u8 13) := cell_of_row w2 q 4 _ _ _ HK2.out.row
      have c5 : w2.cell? ⟨q, 5, none⟩ = some (.int .u8 10) := cell_of_row w2 q 5 _ _ _ HK2.out.row
      have c6 : w2.cell? ⟨q, 6, none⟩ = some (.int .u8 48) := cell_of_row w2 q 6 _ _ _ HK2.out.row
      have c7 : w2.cell? ⟨q, 7, none⟩ = some (.int .u8 13) := cell_of_row w2 q 7 _ _ _ HK2.out.row
      have c8 : w2.cell? ⟨q, 8, none⟩ = some (.int .u8 10) := cell_of_row w2 q 8 _ _ _ HK2.out.row
      have c9 : w2.cell? ⟨q, 9, none⟩ = some (.int .u8 13) := cell_of_row w2 q 9 _ _ _ HK2.out.row
      have c10 : w2.cell? ⟨q, 10, none⟩ = some (.int .u8 10) := cell_of_row w2 q 10 _ _ _ HK2.out.row
      have kc2 : ∀ (w : World) (C : Array Value) (n c : Nat), (convert 36 36 (.slice (some ⟨w.heap.size, 0, none⟩) n c)).run Tryd.prog (w.alloc (.cells C 5)).drew = .ok (.slice (some ⟨w.heap.size, 0, none⟩) n c) (w.drew.alloc (.cells C 5 (C.size, C.size + 1))) := fun w C n c => kc w.drew C n c
      have HQ : Hid (q < w2.heap.size) := (Array.getElem?_eq_some_iff.1 HK2.out.row).1
      have hstr := begB_str q
      have HB2 := Hid.mk' HK2.out.below
      have HWx := Hid.mk' (write_x w w2.drew (HB2.out.trans (below_drew _ _)) HT.out w2.heap.size (w2.heap.size + 1) rfl rfl)
      clear HK2
      go_region_held (fun w' => w'.cell? ⟨q, 0, none⟩ = some (.int .u8 49) ∧ w'.cell? ⟨q, 1, none⟩ = some (.int .u8 13) ∧ w'.cell? ⟨q, 2, none⟩ = some (.int .u8 10) ∧ w'.cell? ⟨q, 3, none⟩ = some (.int .u8 120) ∧ w'.cell? ⟨q, 4, none⟩ = some (.int .u8 13) ∧ w'.cell? ⟨q, 5, none⟩ = some (.int .u8 10) ∧ w'.cell? ⟨q, 6, none⟩ = some (.int .u8 48) ∧ w'.cell? ⟨q, 7, none⟩ = some (.int .u8 13) ∧ w'.cell? ⟨q, 8, none⟩ = some (.int .u8 10) ∧ w'.cell? ⟨q, 9, none⟩ = some (.int .u8 13) ∧ w'.cell? ⟨q, 10, none⟩ = some (.int .u8 10)) (go_keep) (first | (go_at_call 19; refine HWx.out.mono ?_; rintro e w3 ⟨ao3, ca3, rfl, q3, hb3⟩; have d0 : w3.cell? ⟨q, 0, none⟩ = some (.int .u8 49) := (hb3.cell (p := ⟨q, 0, none⟩) HQ.out).trans c0; have d1 : w3.cell? ⟨q, 1, none⟩ = some (.int .u8 13) := (hb3.cell (p := ⟨q, 1, none⟩) HQ.out).trans c1; have d2 : w3.cell? ⟨q, 2, none⟩ = some (.int .u8 10) := (hb3.cell (p := ⟨q, 2, none⟩) HQ.out).trans c2; have d3 : w3.cell? ⟨q, 3, none⟩ = some (.int .u8 120) := (hb3.cell (p := ⟨q, 3, none⟩) HQ.out).trans c3; have d4 : w3.cell? ⟨q, 4, none⟩ = some (.int .u8 13) := (hb3.cell (p := ⟨q, 4, none⟩) HQ.out).trans c4; have d5 : w3.cell? ⟨q, 5, none⟩ = some (.int .u8 10) := (hb3.cell (p := ⟨q, 5, none⟩) HQ.out).trans c5; have d6 : w3.cell? ⟨q, 6, none⟩ = some (.int .u8 48) := (hb3.cell (p := ⟨q, 6, none⟩) HQ.out).trans c6; have d7 : w3.cell? ⟨q, 7, none⟩ = some (.int .u8 13) := (hb3.cell (p := ⟨q, 7, none⟩) HQ.out).trans c7; have d8 : w3.cell? ⟨q, 8, none⟩ = some (.int .u8 10) := (hb3.cell (p := ⟨q, 8, none⟩) HQ.out).trans c8; have d9 : w3.cell? ⟨q, 9, none⟩ = some (.int .u8 13) := (hb3.cell (p := ⟨q, 9, none⟩) HQ.out).trans c9; have d10 : w3.cell? ⟨q, 10, none⟩ = some (.int .u8 10) := (hb3.cell (p := ⟨q, 10, none⟩) HQ.out).trans c10; have HB3 := Hid.mk' (HB2.out.trans (((below_drew _ _).trans hb3).mono HB2.out.size)); clear hb3))
      go_wp2
      go_ret
      exact ⟨rfl, HB3.out⟩
end Go.Proofs.YtnacbfeijakipabDoor
