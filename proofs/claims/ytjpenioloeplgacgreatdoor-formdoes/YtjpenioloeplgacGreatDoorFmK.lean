/- The laws' first look at package forms, walked: formBegun. -/
import Derived.Test.YtjpenioloeplgacGreatDoorPk26
import Derived.Test.YtjpenioloeplgacGreatDoorPk19
import Derived.Lib.SlBytesConst
namespace Go.Proofs.YtjpenioloeplgacGreatDoor
open Go.RowKit

def fbegB : List UInt8 := [45, 45, 88, 13, 10, 67, 111, 110, 116, 101, 110, 116, 45, 68, 105, 115, 112, 111, 115, 105, 116, 105, 111, 110, 58, 32, 102, 111, 114, 109, 45, 100, 97, 116, 97, 59, 32, 110, 97, 109, 101, 61, 97, 13, 10, 13, 10, 98, 13, 10, 45, 45, 88, 45, 45]
theorem fbeg_close : Fm.close (Fm.fold (Fm.mark (⟨#[88]⟩ : ByteArray).data.toList) Fm.start fbegB) = 0 := by decide +kernel
theorem fbeg_gath : Fm.gath (joinD (Fm.outs (Fm.mark (⟨#[88]⟩ : ByteArray).data.toList) Fm.start fbegB)) = [⟨⟨#[97]⟩, ⟨#[]⟩, ⟨#[]⟩, [98]⟩] := by rfl
theorem fbeg_mark : Fm.isMark (⟨#[88]⟩ : ByteArray).data.toList = true := by decide +kernel
theorem fbeg_safe : Fm.safe (⟨#[47, 46, 46, 47, 46, 97, 34]⟩ : ByteArray).data.toList = [97, 95] := by decide +kernel
def fbegO : Obj := .cells #[.int .u8 45, .int .u8 45, .int .u8 88, .int .u8 13, .int .u8 10, .int .u8 67, .int .u8 111, .int .u8 110, .int .u8 116, .int .u8 101, .int .u8 110, .int .u8 116, .int .u8 45, .int .u8 68, .int .u8 105, .int .u8 115, .int .u8 112, .int .u8 111, .int .u8 115, .int .u8 105, .int .u8 116, .int .u8 105, .int .u8 111, .int .u8 110, .int .u8 58, .int .u8 32, .int .u8 102, .int .u8 111, .int .u8 114, .int .u8 109, .int .u8 45, .int .u8 100, .int .u8 97, .int .u8 116, .int .u8 97, .int .u8 59, .int .u8 32, .int .u8 110, .int .u8 97, .int .u8 109, .int .u8 101, .int .u8 61, .int .u8 97, .int .u8 13, .int .u8 10, .int .u8 13, .int .u8 10, .int .u8 98, .int .u8 13, .int .u8 10, .int .u8 45, .int .u8 45, .int .u8 88, .int .u8 45, .int .u8 45] 5 (55, 56)
theorem fbeg_row (W : World) : IsB (W.alloc fbegO) (some ⟨W.heap.size, 0, none⟩) 55 fbegB := by
  have h := IsV.made W #[.int .u8 45, .int .u8 45, .int .u8 88, .int .u8 13, .int .u8 10, .int .u8 67, .int .u8 111, .int .u8 110, .int .u8 116, .int .u8 101, .int .u8 110, .int .u8 116, .int .u8 45, .int .u8 68, .int .u8 105, .int .u8 115, .int .u8 112, .int .u8 111, .int .u8 115, .int .u8 105, .int .u8 116, .int .u8 105, .int .u8 111, .int .u8 110, .int .u8 58, .int .u8 32, .int .u8 102, .int .u8 111, .int .u8 114, .int .u8 109, .int .u8 45, .int .u8 100, .int .u8 97, .int .u8 116, .int .u8 97, .int .u8 59, .int .u8 32, .int .u8 110, .int .u8 97, .int .u8 109, .int .u8 101, .int .u8 61, .int .u8 97, .int .u8 13, .int .u8 10, .int .u8 13, .int .u8 10, .int .u8 98, .int .u8 13, .int .u8 10, .int .u8 45, .int .u8 45, .int .u8 88, .int .u8 45, .int .u8 45] 55 5 (55, 56)
  refine ⟨Nat.le_refl _, (fun e => by cases e), fun j hj => ⟨_, rfl, ?_⟩⟩
  refine h.cell ?_
  exact byteV_at fbegB j hj
/-- Read of them -/
theorem read_fbeg (w : World) (k : Nat) (hk : w.heap.size = k) :
    Calls Tryz.prog 30 #[.string ⟨#[88]⟩, .slice (some ⟨k, 0, none⟩) 55 55] (w.alloc (.cells #[.int .u8 45, .int .u8 45, .int .u8 88, .int .u8 13, .int .u8 10, .int .u8 67, .int .u8 111, .int .u8 110, .int .u8 116, .int .u8 101, .int .u8 110, .int .u8 116, .int .u8 45, .int .u8 68, .int .u8 105, .int .u8 115, .int .u8 112, .int .u8 111, .int .u8 115, .int .u8 105, .int .u8 116, .int .u8 105, .int .u8 111, .int .u8 110, .int .u8 58, .int .u8 32, .int .u8 102, .int .u8 111, .int .u8 114, .int .u8 109, .int .u8 45, .int .u8 100, .int .u8 97, .int .u8 116, .int .u8 97, .int .u8 59, .int .u8 32, .int .u8 110, .int .u8 97, .int .u8 109, .int .u8 101, .int .u8 61, .int .u8 97, .int .u8 13, .int .u8 10, .int .u8 13, .int .u8 10, .int .u8 98, .int .u8 13, .int .u8 10, .int .u8 45, .int .u8 45, .int .u8 88, .int .u8 45, .int .u8 45] 5 (55, 56))) fun e w' => ∃ b o cap bo bc, e = .returned (.tuple #[.slice (some ⟨b, o, none⟩) 1 cap, .int .i64 0]) ∧ (w'.cell? ⟨b, o, none⟩ = some (.string ⟨#[97]⟩) ∧ w'.cell? ⟨b, o + 3, none⟩ = some (.slice bo 1 bc) ∧ (convert 22 9 (.slice bo 1 bc)).run Tryz.prog w' = .ok (.string ⟨#[98]⟩) w') ∧ Below w.heap.size w w' := by
  subst hk
  have b1 : Below w.heap.size w (w.alloc fbegO) := (Below.refl _ _).alloc (Nat.le_refl _) _
  refine (read_any ⟨#[88]⟩ fbegB (some ⟨w.heap.size, 0, none⟩) 55 55 (w.alloc fbegO) (fbeg_row w) rfl (by decide)).mono ?_
  rintro e w' h
  cases h with
  | no c hc h he hb =>
    rcases h with ⟨h1, _⟩ | ⟨_, h1⟩
    · rw [fbeg_mark] at h1; cases h1
    · rw [fbeg_close] at h1; exact absurd h1.symm hc
  | yes hm h w1 ao cap n he hP hb =>
    rw [fbeg_gath] at hP
    obtain ⟨qs, hq, hO, hI⟩ := hP.own
    have hn : n = 1 := hP.len
    subst hn
    match qs, hq with
    | [q], hq =>
      obtain ⟨p, s⟩ := q
      have hp : p = ⟨⟨#[97]⟩, ⟨#[]⟩, ⟨#[]⟩, [98]⟩ := by simpa using hq
      subst hp
      have hB := hI _ (List.mem_singleton.2 rfl)
      have hB : IsB w1 s.bo s.bcap [98] := hB
      obtain ⟨b, rfl⟩ : ∃ b, ao = some ⟨b, 0, none⟩ := by
        rcases hO.2 with ⟨e, hx⟩ | ⟨g, cap', cur, e, _⟩
        · injection e with e e2 e3
          have := hO.isV.1
          omega
        · injection e with e; exact ⟨g, e⟩
      have c0 := (World.ownsRow.cellAt hO 0 (by decide)).trans (ptsV_at [(_, s)] 0 (Nat.lt_succ_self 0) 0 (by decide))
      have c3 := (World.ownsRow.cellAt hO 3 (by decide)).trans (ptsV_at [(_, s)] 0 (Nat.lt_succ_self 0) 3 (by decide))
      exact ⟨b, 0, cap, s.bo, s.bcap, he, ⟨c0, c3, (hB.stay hP.below).str (P := Tryz.prog) 22 9 5 Tryz.underlying22 Tryz.underlying5 Tryz.underlying9⟩, b1.trans (hb.mono b1.size)⟩

set_option maxRecDepth 100000 in
set_option maxHeartbeats 1600000 in
theorem formBegun_any (w : World) :
    Calls Tryz.prog 26 #[] w fun e w' => e = .returned (.bool true) ∧ Below w.heap.size w w' := by
  have kc := fun (w : World) (C : Array Value) (n c : Nat) => Lib.run_convert_bytes_const (P := Tryz.prog) w 22 5 C n c Tryz.underlying22 Tryz.underlying5
  have HF := Hid.mk' (read_fbeg w _ rfl)
  go_enter Tryz.func26, Tryz.ntmps26
  go_wp2_with fail
  refine HF.out.mono ?_
  rintro e w2 ⟨b, o, cap, bo, bc, rfl, ⟨c1, c2, c3⟩, hB⟩
  have HB := Hid.mk' hB
  have HS := Hid.mk' (safe_any ⟨#[47, 46, 46, 47, 46, 97, 34]⟩ w2 (by decide))
  rw [fbeg_safe] at HS
  clear hB HF
  go_wp2_with fail
  refine HS.out.mono ?_
  rintro e w3 ⟨rfl, hB3⟩
  have HB3 := Hid.mk' (then_ HB.out hB3)
  have HM := Hid.mk' (mark_any ⟨#[88]⟩ w3)
  rw [fbeg_mark] at HM
  clear hB3 HS c1 c2 c3 HB
  go_wp2_with fail
  refine HM.out.mono ?_
  rintro e w4 ⟨rfl, hB4⟩
  have HB4 := Hid.mk' (then_ HB3.out hB4)
  clear hB4 HB3 HM
  go_wp2
  go_ret
  exact ⟨rfl, HB4.out⟩
end Go.Proofs.YtjpenioloeplgacGreatDoor
