/- The document's own answer, walked where both are the same: SameReply. -/
import Derived.Test.YtdclmpdjjkjfjaaGreatDoorRfSamF
import Derived.Test.YtdclmpdjjkjfjaaGreatDoorPk13
import Derived.Test.YtdclmpdjjkjfjaaGreatDoorPk11
namespace Go.Proofs.YtdclmpdjjkjfjaaGreatDoor
open Go.RowKit

set_option maxHeartbeats 800000 in
theorem sameReply_yes (st : Int) (l : List (ByteArray × ByteArray)) (a1 a2 b1 b2 : Option Addr) (c1 c2 d1 d2 n : Nat) (body : List UInt8) (w : World) (hn : l.length = n) (h1 : IsV w a1 c1 n (pairV l)) (h2 : IsV w a2 c2 n (pairV l)) (hb1 : IsB w b1 d1 body) (hb2 : IsB w b2 d2 body) (hN : n ≤ 1000000) :
    Calls Tryz.prog 13 #[.agg #[.int .i64 st, .slice a1 n c1, .slice b1 body.length d1], .agg #[.int .i64 st, .slice a2 n c2, .slice b2 body.length d2]] w fun e w' => e = .returned (.bool true) ∧ Below w.heap.size w w' := by
  subst hn
  have H1 := Hid.mk' (OneAt.made w #[.int .i64 st, .slice a1 l.length c1, .slice b1 body.length d1] 32)
  have H2 := Hid.mk' (OneAt.made (w.alloc (.cells #[.int .i64 st, .slice a1 l.length c1, .slice b1 body.length d1] 32)) #[.int .i64 st, .slice a2 l.length c2, .slice b2 body.length d2] 32)
  have hsz : (w.alloc (.cells #[.int .i64 st, .slice a1 l.length c1, .slice b1 body.length d1] 32)).heap.size = w.heap.size + 1 := by rw [World.size_alloc]
  have hB := then_ H1.out.below H2.out.below
  have K1 := Hid.mk' (H1.out.stay H2.out.below)
  have HX : Hid (∀ q, ((((w.alloc (.cells #[.int .i64 st, .slice a1 l.length c1, .slice b1 body.length d1] 32)).alloc (.cells #[.int .i64 st, .slice a2 l.length c2, .slice b2 body.length d2] 32)).drewN q).cell? ⟨w.heap.size, 2, none⟩ = some (.slice b1 body.length d1)) ∧ (((w.alloc (.cells #[.int .i64 st, .slice a1 l.length c1, .slice b1 body.length d1] 32)).alloc (.cells #[.int .i64 st, .slice a2 l.length c2, .slice b2 body.length d2] 32)).drewN q).cell? ⟨w.heap.size + 1, 2, none⟩ = some (.slice b2 body.length d2)) := fun q => by
    have e2 := H2.out.cell 2
    rw [hsz] at e2
    exact ⟨by rw [World.cell?_drewN]; exact K1.out.cell 2, by rw [World.cell?_drewN]; exact e2⟩
  have x10 := K1.out.cell 0; have x11 := K1.out.cell 1
  have x20 := H2.out.cell 0; have x21 := H2.out.cell 1
  rw [hsz] at x20 x21
  have HF := Hid.mk' (sameFields_yes l a1 a2 c1 c2 _ (h1.stay hB) (h2.stay hB) (by omega))
  have HS : Hid (∀ q, Calls Tryz.prog 16 #[.slice b1 body.length d1, .slice b2 body.length d2] (((w.alloc (.cells #[.int .i64 st, .slice a1 l.length c1, .slice b1 body.length d1] 32)).alloc (.cells #[.int .i64 st, .slice a2 l.length c2, .slice b2 body.length d2] 32)).drewN q) fun e w' => e = .returned (.bool true) ∧ w' = (((w.alloc (.cells #[.int .i64 st, .slice a1 l.length c1, .slice b1 body.length d1] 32)).alloc (.cells #[.int .i64 st, .slice a2 l.length c2, .slice b2 body.length d2] 32)).drewN q)) := fun q => by
    have := sameBytes_any _ b1 b2 d1 d2 body.length body.length body body rfl rfl ((hb1.stay hB).drewN q) ((hb2.stay hB).drewN q)
    rw [decide_eq_true rfl] at this
    exact this
  have HB := Hid.mk' hB
  clear h1 h2 hb1 hb2 hB hsz H1 H2 K1
  go_enter Tryz.func13, Tryz.ntmps13
  go_wp2_with fail
  refine HF.out.mono ?_
  rintro e w1 ⟨rfl, q, rfl⟩
  obtain ⟨y1, y2⟩ := HX.out q
  clear HF x10 x11 x20 x21
  go_wp2_with fail
  refine (HS.out q).mono ?_
  rintro e w2 ⟨rfl, hw⟩
  subst hw
  go_wp2
  go_ret
  exact ⟨rfl, HB.out.trans ⟨rfl, rfl, rfl, Nat.le_refl _, fun _ _ => rfl⟩⟩
end Go.Proofs.YtdclmpdjjkjfjaaGreatDoor
