/- The statements' own: tusBegun, walked over what Do and Ours are asked to do. -/
import Derived.Test.YtdclmpdjjkjfjaaGreatDoorPk19
import Derived.Test.YtdclmpdjjkjfjaaGreatDoorTuHd
import Derived.Test.YtdclmpdjjkjfjaaGreatDoorPk25
import Derived.Lib.SlBytesConst
namespace Go.Proofs.YtdclmpdjjkjfjaaGreatDoor
open Go.RowKit

/-- a store alone, in new memory -/
structure UnAt (w W : World) (g : Nat) (s : Sr.Sh) (A : Nat → Prop) : Prop where
  st : StAt W A g s
  a : ∀ k, A k → w.heap.size ≤ k ∧ k < W.heap.size
  below : Below w.heap.size w W
section
variable {w W W' : World} {g : Nat} {s s' : Sr.Sh} {A : Nat → Prop}
theorem UnAt.stay (h : UnAt w W g s A) (hb : Below W.heap.size W W') : UnAt w W' g s A := ⟨h.st.stay hb, fun k e => ⟨(h.a k e).1, Nat.lt_of_lt_of_le (h.a k e).2 hb.size⟩, then_ h.below hb⟩
theorem UnAt.did (h : UnAt w W g s A) (hr : StAt W' (orNew A W) g s') (ht : Turns A W W') : UnAt w W' g s' (fun k => A k ∨ (W.heap.size ≤ k ∧ k < W'.heap.size)) := by
  have hsz := h.below.size
  have hs2 := ht.size
  refine ⟨hr.mono (fun k hk e => ?_), fun k e => ?_, h.below.trans (ht.below (fun k e => (h.a k e).1) hsz)⟩
  · rcases e with e | e
    · exact Or.inl e
    · exact Or.inr ⟨e, hk⟩
  · rcases e with e | e
    · have := h.a k e; exact ⟨this.1, by omega⟩
    · exact ⟨by omega, e.2⟩
end
namespace Tu
/-- the three requests of tusBegun -/
def bgF1 : List (ByteArray × ByteArray) := [(fTR, v100), (⟨#[85, 112, 108, 111, 97, 100, 45, 76, 101, 110, 103, 116, 104]⟩, ⟨#[51]⟩)]
def bgF2 : List (ByteArray × ByteArray) := [(fTR, v100), (⟨#[67, 111, 110, 116, 101, 110, 116, 45, 84, 121, 112, 101]⟩, vOff), (⟨#[85, 112, 108, 111, 97, 100, 45, 79, 102, 102, 115, 101, 116]⟩, ⟨#[48]⟩)]
def bgF3 : List (ByteArray × ByteArray) := [(fTR, v100)]
def bgT : ByteArray := ⟨#[47, 102, 105, 108, 101, 115, 47, 49]⟩
def bg1 : Sr.Sh × Rep := tus Sr.new mPost bFiles bgF1 []
def bg2 : Sr.Sh × Rep := tus bg1.1 mPat bgT bgF2 [97, 98]
def bg3 : Sr.Sh × Rep := tus bg2.1 mHead bgT bgF3 []
theorem bg1_st : bg1.2.1 = 201 := by decide +kernel
theorem bg2_st : bg2.2.1 = 204 := by decide +kernel
theorem bg3_st : bg3.2 = (200, [(fTR, v100), (fUO, ⟨#[50]⟩), (fUL, ⟨#[51]⟩), (fCC, vNS)]) := by decide +kernel
theorem ours_bg : ours bFilesS = true := by decide +kernel
end Tu
set_option maxRecDepth 100000 in
set_option maxHeartbeats 4000000 in
theorem tusBegun_any (w : World) (HDo : DoIs w) (HOu : OursIs w) : Calls Tryz.prog 6 #[] w fun e w' => e = .returned (.bool true) ∧ Below w.heap.size w w' := by
  have HNw := Hid.mk' (newSt_any w)
  have HD1 : Hid (∀ W A g fo fc, UnAt w W g Sr.new A → IsV W fo fc 2 (pairV Tu.bgF1) → Calls Tryz.prog 10 #[.pointer (some ⟨g, 0, none⟩), .agg #[.string Tu.mPost, .string Tu.bFiles, .int .i64 1, .slice fo 2 fc, .int .i64 0], .slice none 0 0] W fun e w' => TuDid StAt A W g Tu.bg1 e w') := fun W A g fo fc hU hV => HDo hU.below (fun k e => (hU.a k e).1) hU.st Sr.Ok.new (by show 0 ≤ 99000; omega) _ _ _ _ Tu.bgF1 fo fc hV (by decide) (by decide +kernel) none 0 [] (IsB.nil _) (by decide) (by decide) (by decide)
  have ok1 : Sr.Ok Tu.bg1.1 := Tu.tus_ok Sr.Ok.new _ _ _ _
  have l1 : Tu.bg1.1.log.length ≤ 0 + 0 + 120 := Tu.tus_log Sr.new _ _ _ _
  have l2 : Tu.bg2.1.log.length ≤ Tu.bg1.1.log.length + 2 + 120 := Tu.tus_log Tu.bg1.1 _ _ _ _
  have ok2 : Sr.Ok Tu.bg2.1 := Tu.tus_ok ok1 _ _ _ _
  have HD2 : Hid (∀ W A g fo fc bo bc, UnAt w W g Tu.bg1.1 A → IsV W fo fc 3 (pairV Tu.bgF2) → IsB W bo bc [97, 98] → Calls Tryz.prog 10 #[.pointer (some ⟨g, 0, none⟩), .agg #[.string Tu.mPat, .string Tu.bgT, .int .i64 1, .slice fo 3 fc, .int .i64 0], .slice bo 2 bc] W fun e w' => TuDid StAt A W g Tu.bg2 e w') := fun W A g fo fc bo bc hU hV hB => HDo hU.below (fun k e => (hU.a k e).1) hU.st ok1 (by omega) _ _ _ _ Tu.bgF2 fo fc hV (by decide) (by decide +kernel) bo bc [97, 98] hB (by decide) (by decide) (by decide)
  have HD3 : Hid (∀ W A g fo fc, UnAt w W g Tu.bg2.1 A → IsV W fo fc 1 (pairV Tu.bgF3) → Calls Tryz.prog 10 #[.pointer (some ⟨g, 0, none⟩), .agg #[.string Tu.mHead, .string Tu.bgT, .int .i64 1, .slice fo 1 fc, .int .i64 0], .slice none 0 0] W fun e w' => TuDid StAt A W g Tu.bg3 e w') := fun W A g fo fc hU hV => HDo hU.below (fun k e => (hU.a k e).1) hU.st ok2 (by omega) _ _ _ _ Tu.bgF3 fo fc hV (by decide) (by decide +kernel) none 0 [] (IsB.nil _) (by decide) (by decide) (by decide)
  have HO : Hid (∀ W, Below w.heap.size w W → Calls Tryz.prog 17 #[.string Tu.bFilesS] W fun e w' => e = .returned (.bool true) ∧ Below W.heap.size W w') := fun W hW => by
    have := HOu hW Tu.bFilesS (by decide)
    rw [Tu.ours_bg] at this
    exact this
  clear HDo HOu ok1 ok2 l1 l2
  unfold Tu.mPost Tu.bFiles at HD1
  unfold Tu.mPat Tu.bgT at HD2
  unfold Tu.mHead Tu.bgT at HD3
  unfold Tu.bFilesS at HO
  go_enter Tryz.func6, Tryz.ntmps6
  go_wp2_with fail
  refine HNw.out.mono ?_
  rintro e w1 ⟨g, rfl, hS, hb⟩
  have HU1 : Hid (UnAt w w1 g Sr.new (fun k => w.heap.size ≤ k ∧ k < w1.heap.size)) := ⟨hS.mono (fun k hk e => ⟨e, hk⟩), fun k e => e, hb⟩
  clear hS hb HNw
  have HH1 := Hid.mk' (headL_one ⟨#[80, 79, 83, 84]⟩ ⟨#[47, 102, 105, 108, 101, 115]⟩ ⟨#[85, 112, 108, 111, 97, 100, 45, 76, 101, 110, 103, 116, 104]⟩ ⟨#[51]⟩ (some ⟨w1.heap.size, 0, none⟩) 2 _ (IsV.made w1 #[.string ⟨#[85, 112, 108, 111, 97, 100, 45, 76, 101, 110, 103, 116, 104]⟩, .string ⟨#[51]⟩] 2 9 (0, 0)))
  go_wp2_with fail
  refine HH1.out.mono ?_
  rintro e w2 ⟨ao2, cap2, rfl, hO2, hb2⟩
  have hU2 := HU1.out.stay (((Below.refl _ w1).alloc (Nat.le_refl _) _).trans (hb2.mono (by simp)))
  have HC1 := Hid.mk' (HD1.out w2 _ g ao2 cap2 hU2 hO2.isV)
  have HU2 := Hid.mk' hU2
  clear hU2 hO2 hb2 HH1 HU1 HD1
  go_wp2_with fail
  refine HC1.out.mono ?_
  rintro e w3 ⟨⟨a3, c3, n3, rfl, _, _⟩, hat3, hT3⟩
  have HU3 := Hid.mk' (HU2.out.did hat3 hT3)
  have h201 : ((Tu.bg1.2.1 : Nat) : Int) = 201 := by rw [Tu.bg1_st]; rfl
  rw [h201]
  clear hat3 hT3 HC1 HU2 h201
  have HU3a := Hid.mk' (HU3.out.stay ((Below.refl _ w3).alloc (Nat.le_refl _) (.cells #[.int .i64 201, .slice a3 n3 c3, .slice none 0 0] 32)))
  have HR3 : Hid ((w3.alloc (.cells #[.int .i64 201, .slice a3 n3 c3, .slice none 0 0] 32)).heap[w3.heap.size]? = some (.cells #[.int .i64 201, .slice a3 n3 c3, .slice none 0 0] 32 (0, 0))) := heap_alloc_new w3 _
  have HN3 : Hid (∀ k, (fun k => (w.heap.size ≤ k ∧ k < w1.heap.size) ∨ (w2.heap.size ≤ k ∧ k < w3.heap.size)) k → k ≠ w3.heap.size) := fun k e e2 => by have := (HU3.out.a k e).2; omega
  go_upto_region 3 with fail
  generalize (w3.alloc (.cells #[.int .i64 201, .slice a3 n3 c3, .slice none 0 0] 32)) = x3 at *
  generalize w3.heap.size = ba at *
  have HH2 := Hid.mk' (headL_two ⟨#[80, 65, 84, 67, 72]⟩ ⟨#[47, 102, 105, 108, 101, 115, 47, 49]⟩ ⟨#[67, 111, 110, 116, 101, 110, 116, 45, 84, 121, 112, 101]⟩ ⟨#[97, 112, 112, 108, 105, 99, 97, 116, 105, 111, 110, 47, 111, 102, 102, 115, 101, 116, 43, 111, 99, 116, 101, 116, 45, 115, 116, 114, 101, 97, 109]⟩ ⟨#[85, 112, 108, 111, 97, 100, 45, 79, 102, 102, 115, 101, 116]⟩ ⟨#[48]⟩ (some ⟨x3.heap.size, 0, none⟩) 4 _ (IsV.made x3 #[.string ⟨#[67, 111, 110, 116, 101, 110, 116, 45, 84, 121, 112, 101]⟩, .string ⟨#[97, 112, 112, 108, 105, 99, 97, 116, 105, 111, 110, 47, 111, 102, 102, 115, 101, 116, 43, 111, 99, 116, 101, 116, 45, 115, 116, 114, 101, 97, 109]⟩, .string ⟨#[85, 112, 108, 111, 97, 100, 45, 79, 102, 102, 115, 101, 116]⟩, .string ⟨#[48]⟩] 4 9 (0, 0)))
  have kc := fun (w : World) (C : Array Value) (n c : Nat) => Lib.run_convert_bytes_const (P := Tryz.prog) w 30 5 C n c Tryz.underlying30 Tryz.underlying5
  go_wp2_with fail
  refine HH2.out.mono ?_
  rintro e w4 ⟨ao4, cap4, rfl, hO4, hb4⟩
  have hb4' := ((Below.refl x3.heap.size x3).alloc (Nat.le_refl _) (.cells #[.string ⟨#[67, 111, 110, 116, 101, 110, 116, 45, 84, 121, 112, 101]⟩, .string ⟨#[97, 112, 112, 108, 105, 99, 97, 116, 105, 111, 110, 47, 111, 102, 102, 115, 101, 116, 43, 111, 99, 116, 101, 116, 45, 115, 116, 114, 101, 97, 109]⟩, .string ⟨#[85, 112, 108, 111, 97, 100, 45, 79, 102, 102, 115, 101, 116]⟩, .string ⟨#[48]⟩] 9)).trans (hb4.mono (by simp))
  have hb5 := then_ hb4' ((Below.refl _ w4).alloc (Nat.le_refl _) (.cells #[.int .u8 97, .int .u8 98] 5 (2, 3)))
  have hU5 := HU3a.out.stay hb5
  have hI5 : IsB (w4.alloc (.cells #[.int .u8 97, .int .u8 98] 5 (2, 3))) (some ⟨w4.heap.size, 0, none⟩) 2 [97, 98] := by
    refine ⟨by decide, (fun h => by cases h), fun j hj => ⟨_, rfl, ?_⟩⟩
    rw [Addr.add_lit, Nat.zero_add, World.cell?_alloc_mark]
    match j, hj with
    | 0, _ => rfl
    | 1, _ => rfl
  have HC2 := Hid.mk' (HD2.out _ _ g ao4 cap4 (some ⟨w4.heap.size, 0, none⟩) 2 hU5 (hO4.isV.alloc _) hI5)
  have HU5 := Hid.mk' hU5
  have HB4 : Hid (ba < (w4.alloc (.cells #[.int .u8 97, .int .u8 98] 5 (2, 3))).heap.size) := Nat.lt_of_lt_of_le (Array.getElem?_eq_some_iff.1 HR3.out).1 hb5.size
  have HR5 := Hid.mk' ((hb5.block ba (Array.getElem?_eq_some_iff.1 HR3.out).1).trans HR3.out)
  clear hU5 hI5 hO4 hb4 hb4' hb5 HH2 HU3a HD2 HR3
  go_wp2_with fail
  refine HC2.out.mono ?_
  rintro e w6 ⟨⟨a6, c6, n6, rfl, _, _⟩, hat6, hT6⟩
  have HU6 := Hid.mk' (HU5.out.did hat6 hT6)
  have HR6 := Hid.mk' (hT6.row HR5.out (fun e => HN3.out _ e rfl))
  have h204 : ((Tu.bg2.2.1 : Nat) : Int) = 204 := by rw [Tu.bg2_st]; rfl
  rw [h204]
  clear hat6 hT6 HC2 HU5 h204 HR5
  have HU6a := Hid.mk' (HU6.out.stay ((Below.refl _ w6).alloc (Nat.le_refl _) (.cells #[.int .i64 204, .slice a6 n6 c6, .slice none 0 0] 32)))
  have HRa : Hid ((w6.alloc (.cells #[.int .i64 204, .slice a6 n6 c6, .slice none 0 0] 32)).heap[ba]? = some (.cells #[.int .i64 201, .slice a3 n3 c3, .slice none 0 0] 32 (0, 0))) := (((Below.refl _ w6).alloc (Nat.le_refl _) _).block ba (Array.getElem?_eq_some_iff.1 HR6.out).1).trans HR6.out
  have HRb : Hid ((w6.alloc (.cells #[.int .i64 204, .slice a6 n6 c6, .slice none 0 0] 32)).heap[w6.heap.size]? = some (.cells #[.int .i64 204, .slice a6 n6 c6, .slice none 0 0] 32 (0, 0))) := heap_alloc_new w6 _
  have HNa : Hid (∀ k, (fun k => ((w.heap.size ≤ k ∧ k < w1.heap.size) ∨ (w2.heap.size ≤ k ∧ k < ba)) ∨ ((w4.alloc (.cells #[.int .u8 97, .int .u8 98] 5 (2, 3))).heap.size ≤ k ∧ k < w6.heap.size)) k → k ≠ ba ∧ k ≠ w6.heap.size) := fun k e => ⟨fun e2 => by
      rcases e with e | e
      · exact HN3.out k e e2
      · have := HB4.out; omega, fun e2 => by have := (HU6.out.a k e).2; omega⟩
  go_upto_region 4 with fail
  generalize (w6.alloc (.cells #[.int .i64 204, .slice a6 n6 c6, .slice none 0 0] 32)) = x6 at *
  generalize w6.heap.size = bb at *
  generalize (w4.alloc (.cells #[.int .u8 97, .int .u8 98] 5 (2, 3))).heap.size = z4 at *
  have HH3 := Hid.mk' (headL_none ⟨#[72, 69, 65, 68]⟩ ⟨#[47, 102, 105, 108, 101, 115, 47, 49]⟩ x6)
  go_wp2_with fail
  refine HH3.out.mono ?_
  rintro e w7 ⟨ao7, cap7, rfl, hO7, hb7⟩
  have hU7 := HU6a.out.stay hb7
  have HC3 := Hid.mk' (HD3.out _ _ g ao7 cap7 hU7 hO7.isV)
  have HU7 := Hid.mk' hU7
  have HRa7 := Hid.mk' ((hb7.block ba (Array.getElem?_eq_some_iff.1 HRa.out).1).trans HRa.out)
  have HRb7 := Hid.mk' ((hb7.block bb (Array.getElem?_eq_some_iff.1 HRb.out).1).trans HRb.out)
  clear hU7 hO7 hb7 HH3 HU6a HD3 HRa HRb
  go_wp2_with fail
  refine HC3.out.mono ?_
  rintro e w8 ⟨⟨a8, c8, n8, rfl, hn8, hO8⟩, hat8, hT8⟩
  have HU8 := Hid.mk' (HU7.out.did hat8 hT8)
  have HRa8 := Hid.mk' (hT8.row HRa7.out (fun e => (HNa.out _ e).1 rfl))
  have HRb8 := Hid.mk' (hT8.row HRb7.out (fun e => (HNa.out _ e).2 rfl))
  have h200 : ((Tu.bg3.2.1 : Nat) : Int) = 200 := by rw [Tu.bg3_st]; rfl
  rw [Tu.bg3_st] at hn8 hO8
  rw [h200]
  obtain rfl : n8 = 4 := hn8.symm
  have hV8 := hO8.isV
  obtain ⟨b8, o8, rfl, hcs⟩ := hV8.lit (by decide)
  have v1 := hcs 3 (.string ⟨#[50]⟩) rfl
  have hc8 := hV8.1
  have hbx := (Below.refl w8.heap.size w8).alloc (Nat.le_refl _) (.cells #[.int .i64 200, .slice (some ⟨b8, o8, none⟩) 4 c8, .slice none 0 0] 32)
  have d1 := (hbx.cell (World.block_lt_of_cell? w8 _ v1)).trans v1
  have ra := (hbx.block ba (Array.getElem?_eq_some_iff.1 HRa8.out).1).trans HRa8.out
  have rb := (hbx.block bb (Array.getElem?_eq_some_iff.1 HRb8.out).1).trans HRb8.out
  have d2 : (w8.alloc (.cells #[.int .i64 200, .slice (some ⟨b8, o8, none⟩) 4 c8, .slice none 0 0] 32)).cell? ⟨ba, 0, none⟩ = some (.int .i64 201) := cell_of_row _ ba 0 _ _ _ ra
  have d3 : (w8.alloc (.cells #[.int .i64 200, .slice (some ⟨b8, o8, none⟩) 4 c8, .slice none 0 0] 32)).cell? ⟨bb, 0, none⟩ = some (.int .i64 204) := cell_of_row _ bb 0 _ _ _ rb
  have d4 : (w8.alloc (.cells #[.int .i64 200, .slice (some ⟨b8, o8, none⟩) 4 c8, .slice none 0 0] 32)).cell? ⟨w8.heap.size, 0, none⟩ = some (.int .i64 200) := World.cell?_alloc_mark w8 _ _ _ 0
  have d5 : (w8.alloc (.cells #[.int .i64 200, .slice (some ⟨b8, o8, none⟩) 4 c8, .slice none 0 0] 32)).cell? ⟨w8.heap.size, 1, none⟩ = some (.slice (some ⟨b8, o8, none⟩) 4 c8) := World.cell?_alloc_mark w8 _ _ _ 1
  have HB8 := Hid.mk' (then_ HU8.out.below hbx)
  have HO8 := Hid.mk' (HO.out _ (then_ HU8.out.below hbx))
  clear hat8 hT8 HC3 HU7 h200 hn8 hO8 hV8 hcs v1 hbx ra rb HRa7 HRb7 HRa8 HRb8
  go_wp2_with fail
  refine HO8.out.mono ?_
  rintro e w9 ⟨rfl, hb9⟩
  have HB9 := Hid.mk' (then_ HB8.out hb9)
  clear hb9
  go_wp2
  go_ret
  exact ⟨rfl, HB9.out⟩
end Go.Proofs.YtdclmpdjjkjfjaaGreatDoor
