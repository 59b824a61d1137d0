/- The laws' first look at package request, walked: requestBegun. -/
import Derived.Test.YtkafbifogdoneacGreatDoorPk26
import Derived.Test.YtkafbifogdoneacGreatDoorPk28
import Derived.Test.YtkafbifogdoneacGreatDoorPk21
import Derived.Lib.SlBytesConst
namespace Go.Proofs.YtkafbifogdoneacGreatDoor
open Go.RowKit

def begunB : List UInt8 := [71, 69, 84, 32, 47, 120, 32, 72, 84, 84, 80, 47, 49, 46, 49, 13, 10, 72, 111, 115, 116, 58, 32, 97, 13, 10, 13, 10]
def begunH : Rq.Hd := ⟨[71, 69, 84], [47, 120], 1, [([72, 111, 115, 116], [97])], 0⟩
theorem begun_outs : Rq.join (Rq.outs Rq.start begunB) = [.head begunH, .fin] := by rfl
theorem begun_busy : Rq.busy (Rq.fold Rq.start begunB) = false := by rfl
def begunT : List UInt8 := [71, 69, 84, 32, 47, 120, 32, 72, 84, 84, 80, 47, 49, 46, 49, 13, 10, 72, 111, 115, 116, 58, 32, 97, 13, 10, 67, 111, 110, 116, 101, 110, 116, 45, 76, 101, 110, 103, 116, 104, 58, 32, 49, 13, 10, 13, 10, 121]
theorem begun_text : Rq.text (Rq.hdT ⟨#[71, 69, 84]⟩ ⟨#[47, 120]⟩ [(⟨#[72, 111, 115, 116]⟩, ⟨#[97]⟩)]) [121] = (begunT, 0) := by rfl
theorem begun_fault : Rq.faultN (Ch.isToken (⟨#[71, 69, 84]⟩ : ByteArray).data.toList) (Rq.isTarget (⟨#[47, 120]⟩ : ByteArray).data.toList) ((⟨#[71, 69, 84]⟩ : ByteArray).data.toList.length + (⟨#[47, 120]⟩ : ByteArray).data.toList.length + 10) 1 1 (Fd.vals bSize [(⟨#[72, 111, 115, 116]⟩, ⟨#[97]⟩)]).length (Fd.vals bCode [(⟨#[72, 111, 115, 116]⟩, ⟨#[97]⟩)]).length (Fd.vals bHost [(⟨#[72, 111, 115, 116]⟩, ⟨#[97]⟩)]).length = 0 := by rfl
theorem itoa_one (W : World) : Calls Tryz.prog 50 #[.int .i64 1] W fun e w' => e = .returned (.string ⟨#[49]⟩) ∧ Below W.heap.size W w' := by
  have h := Any.strconv_Itoa_small { Tryz.lays171 with } 1 (by omega) W
  have e : Lib.decDigits 1 = [49] := by rw [Lib.decDigits, dif_pos (by omega)]; rfl
  rw [e] at h
  refine h.mono ?_
  rintro e w' ⟨he, hw⟩
  subst hw
  exact ⟨he, Below.refl _ _⟩
/-- the bytes as they lie -/
def begunO : Obj := .cells #[.int .u8 71, .int .u8 69, .int .u8 84, .int .u8 32, .int .u8 47, .int .u8 120, .int .u8 32, .int .u8 72, .int .u8 84, .int .u8 84, .int .u8 80, .int .u8 47, .int .u8 49, .int .u8 46, .int .u8 49, .int .u8 13, .int .u8 10, .int .u8 72, .int .u8 111, .int .u8 115, .int .u8 116, .int .u8 58, .int .u8 32, .int .u8 97, .int .u8 13, .int .u8 10, .int .u8 13, .int .u8 10] 5 (28, 29)
theorem begun_row (W : World) : IsB (W.alloc begunO) (some ⟨W.heap.size, 0, none⟩) 28 begunB := by
  have h := IsV.made W #[.int .u8 71, .int .u8 69, .int .u8 84, .int .u8 32, .int .u8 47, .int .u8 120, .int .u8 32, .int .u8 72, .int .u8 84, .int .u8 84, .int .u8 80, .int .u8 47, .int .u8 49, .int .u8 46, .int .u8 49, .int .u8 13, .int .u8 10, .int .u8 72, .int .u8 111, .int .u8 115, .int .u8 116, .int .u8 58, .int .u8 32, .int .u8 97, .int .u8 13, .int .u8 10, .int .u8 13, .int .u8 10] 28 5 (28, 29)
  refine ⟨Nat.le_refl _, (fun e => by cases e), fun j hj => ⟨_, rfl, ?_⟩⟩
  refine h.cell ?_
  exact byteV_at begunB j hj
/-- Feed of them -/
theorem feed_begun (w w1 : World) (g k : Nat) (hR : ReqAt w1 (fun i => w.heap.size ≤ i) g Rq.start) (hB : Below w.heap.size w w1) (hk : w1.heap.size = k) :
    Calls Tryz.prog 12 #[.pointer (some ⟨g, 0, none⟩), .slice (some ⟨k, 0, none⟩) 28 28] (w1.alloc (.cells #[.int .u8 71, .int .u8 69, .int .u8 84, .int .u8 32, .int .u8 47, .int .u8 120, .int .u8 32, .int .u8 72, .int .u8 84, .int .u8 84, .int .u8 80, .int .u8 47, .int .u8 49, .int .u8 46, .int .u8 49, .int .u8 13, .int .u8 10, .int .u8 72, .int .u8 111, .int .u8 115, .int .u8 116, .int .u8 58, .int .u8 32, .int .u8 97, .int .u8 13, .int .u8 10, .int .u8 13, .int .u8 10] 5 (28, 29))) fun e w' => ∃ b o cap, e = .returned (.slice (some ⟨b, o, none⟩) 2 cap) ∧ (w'.cell? ⟨b, o, none⟩ = some (.int .i64 1) ∧ w'.cell? ⟨b, o + 2, none⟩ = some (.string ⟨#[47, 120]⟩) ∧ w'.cell? ⟨b, o + 12, none⟩ = some (.int .i64 3)) ∧ (∃ S, ReqAt w' S g (Rq.fold Rq.start begunB)) ∧ Below w.heap.size w w' := by
  subst hk
  have b1 : Below w1.heap.size w1 (w1.alloc begunO) := (Below.refl _ _).alloc (Nat.le_refl _) _
  have hR2 := (hR.mono (S' := fun i => w.heap.size ≤ i ∧ i < w1.heap.size) (fun i hi e => ⟨e, hi⟩)).stay b1
  refine (feedReq_any (w1.alloc begunO) _ g Rq.start begunB _ 28 28 hR2 Rq.Good.start (begun_row w1) (fun _ a e => by injection e with e; subst e; exact fun x => absurd x.2 (Nat.lt_irrefl _)) rfl (by decide)).mono ?_
  rintro e w' ⟨ao, cap, n, S', So', he, hn, hR', hO, _, _, _, hT⟩
  have hsz := hB.size
  rw [begun_outs] at hn hO
  obtain ⟨b, o, rfl, hE⟩ := hO.isEs.lit (by decide)
  obtain ⟨s0, h0⟩ := hE 0 (by decide)
  obtain ⟨s1, h1⟩ := hE 1 (by decide)
  refine ⟨b, o, cap, by rw [he, hn]; rfl, ⟨by have := h0.at_ 0 _ rfl; exact this, by have := h0.at_ 2 _ rfl; exact this, by have := h1.at_ 0 _ rfl; exact this⟩, ⟨S', hR'⟩, (hB.trans (b1.mono hsz)).trans (hT.below (fun i e => e.1) (by rw [World.size_alloc]; omega))⟩
/-- Write of the one head with a body of one byte, just made -/
theorem write_begun (W : World) (k k' : Nat) (hk : W.heap.size = k) (hk' : k' = k + 1) :
    Calls Tryz.prog 17 #[.agg #[.string ⟨#[71, 69, 84]⟩, .string ⟨#[47, 120]⟩, .int .i64 0, .slice (some ⟨k, 0, none⟩) 1 1, .int .i64 0], .slice (some ⟨k', 0, none⟩) 1 1] ((W.alloc (.cells #[.string ⟨#[72, 111, 115, 116]⟩, .string ⟨#[97]⟩] 51)).alloc (.cells #[.int .u8 121] 5 (1, 2))) fun e w' => ∃ g cap, e = .returned (.tuple #[.slice (some ⟨g, 0, none⟩) 48 cap, .int .i64 0]) ∧ (convert 22 9 (.slice (some ⟨g, 0, none⟩) 48 cap)).run Tryz.prog w' = .ok (.string ⟨begunT.toArray⟩) w' ∧ Below W.heap.size W w' := by
  subst hk; subst hk'
  have b1 : Below W.heap.size W (W.alloc (.cells #[.string ⟨#[72, 111, 115, 116]⟩, .string ⟨#[97]⟩] 51)) := (Below.refl _ _).alloc (Nat.le_refl _) _
  have b2 := b1.alloc b1.size (.cells #[.int .u8 121] 5 (1, 2))
  have hV := (IsV.made W #[.string ⟨#[72, 111, 115, 116]⟩, .string ⟨#[97]⟩] 1 51 (0, 0)).alloc (.cells #[.int .u8 121] 5 (1, 2))
  have hI : IsB ((W.alloc (.cells #[.string ⟨#[72, 111, 115, 116]⟩, .string ⟨#[97]⟩] 51)).alloc (.cells #[.int .u8 121] 5 (1, 2))) (some ⟨W.heap.size + 1, 0, none⟩) 1 [121] := IsB.one_at _ 121 _ _ (World.size_alloc _ _)
  refine (write_fine _ ⟨#[71, 69, 84]⟩ ⟨#[47, 120]⟩ ⟨#[49]⟩ 0 0 [(⟨#[72, 111, 115, 116]⟩, ⟨#[97]⟩)] _ _ 1 1 1 1 [121] hV rfl (by decide) (by decide) (by decide) rfl hI (fun W' _ => itoa_one W') (by decide +kernel) begun_fault).mono ?_
  rintro e w' h
  cases h with
  | bad c hc he ht hB => rw [begun_text] at ht; injection ht with _ h2; exact absurd h2.symm hc
  | ok g cap n he hn ht hO hB =>
    rw [begun_text] at hn hO
    refine ⟨g, cap, by rw [he, hn]; rfl, hO.isB.str (P := Tryz.prog) 22 9 5 Tryz.underlying22 Tryz.underlying5 Tryz.underlying9, b2.trans (hB.mono b2.size)⟩

set_option maxRecDepth 100000 in
set_option maxHeartbeats 1600000 in
theorem requestBegun_any (w : World) :
    Calls Tryz.prog 9 #[] w fun e w' => e = .returned (.bool true) ∧ Below w.heap.size w w' := by
  have kc := fun (w : World) (C : Array Value) (n c : Nat) => Lib.run_convert_bytes_const (P := Tryz.prog) w 22 5 C n c Tryz.underlying22 Tryz.underlying5
  have kc2 : ∀ (w : World) (ob : Obj) (C : Array Value) (n c : Nat), (convert 22 22 (.slice (some ⟨w.heap.size + 1, 0, none⟩) n c)).run Tryz.prog ((w.alloc ob).alloc (.cells C 5)) = .ok (.slice (some ⟨w.heap.size + 1, 0, none⟩) n c) ((w.alloc ob).alloc (.cells C 5 (C.size, C.size + 1))) := fun w ob C n c => by
    have := kc (w.alloc ob) C n c
    rw [World.size_alloc] at this
    exact this
  go_enter Tryz.func9, Tryz.ntmps9
  go_wp2_with fail
  refine (newReq_any w).mono ?_
  rintro e w1 ⟨g, rfl, hR, hB⟩
  have HF := Hid.mk' (feed_begun w w1 g _ hR hB rfl)
  clear hR hB
  go_wp2_with fail
  refine HF.out.mono ?_
  rintro e w2 ⟨b, o, cap, rfl, hC, hR, hB⟩
  have HC := Hid.mk' hC; have HR := Hid.mk' hR; have HB := Hid.mk' hB
  have HW := Hid.mk' (write_begun w2 _ _ rfl rfl)
  clear hC hR hB HF
  go_wp2_with fail
  refine HW.out.mono ?_
  rintro e w3 ⟨q, cq, rfl, hs, hB3⟩
  obtain ⟨c1, c2, c3⟩ := HC.out
  have d1 : w3.cell? ⟨b, o, none⟩ = some (.int .i64 1) := (hB3.cell (World.block_lt_of_cell? w2 _ c1)).trans c1
  have d2 : w3.cell? ⟨b, o + 2, none⟩ = some (.string ⟨#[47, 120]⟩) := (hB3.cell (World.block_lt_of_cell? w2 _ c2)).trans c2
  have d3 : w3.cell? ⟨b, o + 12, none⟩ = some (.int .i64 3) := (hB3.cell (World.block_lt_of_cell? w2 _ c3)).trans c3
  obtain ⟨S, hR⟩ := HR.out
  have HBu := Hid.mk' (busy_any w3 S g _ (hR.stay hB3))
  rw [begun_busy] at HBu
  have HB3 := Hid.mk' (HB.out.trans (hB3.mono HB.out.size))
  have hT : (⟨begunT.toArray⟩ : ByteArray) = ⟨#[71, 69, 84, 32, 47, 120, 32, 72, 84, 84, 80, 47, 49, 46, 49, 13, 10, 72, 111, 115, 116, 58, 32, 97, 13, 10, 67, 111, 110, 116, 101, 110, 116, 45, 76, 101, 110, 103, 116, 104, 58, 32, 49, 13, 10, 13, 10, 121]⟩ := rfl
  rw [hT] at hs
  clear HR HC HW hR hB3 c1 c2 c3 hT HB
  go_wp2_with fail
  refine HBu.out.mono ?_
  rintro e w4 ⟨rfl, rfl⟩
  go_wp2
  go_ret
  exact ⟨rfl, HB3.out⟩
end Go.Proofs.YtkafbifogdoneacGreatDoor
