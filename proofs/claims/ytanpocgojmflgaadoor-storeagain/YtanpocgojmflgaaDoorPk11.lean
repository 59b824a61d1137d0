/- Small texts, one behind the other: JrA, LwStG, RfSame. -/
import Derived.Test.YtanpocgojmflgaaDoorPk3
import Derived.Test.YtanpocgojmflgaaDoorBase
import Derived.Test.YtanpocgojmflgaaDoorPk5
import Derived.Test.YtanpocgojmflgaaDoorPk4
import Derived.Test.YtanpocgojmflgaaDoorBtInfo
import Derived.Test.YtanpocgojmflgaaDoorProg
/- Package journal, and the document's own answer, walked: a number's bytes. -/
namespace Go.Proofs.YtanpocgojmflgaaDoor
open Go.RowKit

/-- the wrap of a byte -/
theorem wrap_byte {x : Nat} (h : x < 256) : IntKind.u8.wrap (x : Int) = ((UInt8.ofNat x).toNat : Int) := by
  rw [IntKind.wrap_u8, Jn.toNat_of h]; omega
/-- what a loop over a number keeps -/
structure NmRel (w : World) (base : Nat) (p : List UInt8) (r : Nat) (ao : Option Addr) (cap k : Nat) (done : List UInt8) (wr : World) : Prop where
  own : OwnB wr base 5 ao cap p
  len : p.length = k
  below : Below base w wr
  all : p ++ Jn.num r = done
theorem NmRel.more {w : World} {base : Nat} {p : List UInt8} {r : Nat} {ao : Option Addr} {cap k : Nat} {done : List UInt8} {wr : World} (h : NmRel w base p r ao cap k done wr) (hb : base ≤ w.heap.size) (hr : ¬ r < 128) {c : UInt8} (hc : UInt8.ofNat (r % 128 + 128) = c) (o : Obj) (ao' : Option Addr) (cap' : Nat) (w' : World) (hO : OwnB w' base 5 ao' cap' (p ++ [c])) (hG : (wr.alloc o).grownBy w' (blockOf ao)) : NmRel w base (p ++ [c]) (r / 128) ao' cap' (k + 1) done w' := by
  have h1 := h.below.alloc (by have := h.below.size; omega) o
  refine ⟨hO, by rw [List.length_append, h.len]; rfl, h1.trans (grown_base (h.own.alloc o) hG (by have := h1.size; omega)), ?_⟩
  have := h.all
  rw [Jn.num_great hr, hc] at this
  rw [← this]; simp
set_option maxHeartbeats 1000000 in
theorem appendNumber_any (x : Nat) (hx : x ≤ 1000000000000) (base : Nat) (ao : Option Addr) (cap n : Nat) (l : List UInt8) (w : World) (hO : OwnB w base 5 ao cap l) (hn : l.length = n) (hN : n ≤ 1000000000) (hb : base ≤ w.heap.size) (v : Int) (hv : v + 1 = x) :
    Calls Tryd.prog 76 #[.slice ao n cap, .int .i64 v] w fun e w' => ∃ ao' cap', e = .returned (.slice ao' (n + (Jn.num x).length) cap') ∧ OwnB w' base 5 ao' cap' (l ++ Jn.num x) ∧ Below base w w' := by
  have H0 : Hid (NmRel w base l x ao cap n (l ++ Jn.num x) w) := ⟨hO, hn, Below.refl _ _, rfl⟩
  have HL : Hid (∀ k r p, p ++ Jn.num r = l ++ Jn.num x → p.length = k → k + (Jn.num r).length = n + (Jn.num x).length) := fun k r p e e2 => by
    have := congrArg List.length e
    rw [List.length_append, List.length_append, hn] at this; omega
  have hlx : (Jn.num x).length ≤ 6 := Jn.num_len 5 x (by omega)
  have hw : IntKind.i64.wrap (v + 1) = x := by rw [hv]; exact wrap_id (by omega) (by omega)
  obtain ⟨i0, hi0, hz0, hz1, hz2⟩ := info_parts info_u8
  have Hi := Hid.mk' hi0; have Hz0 := Hid.mk' hz0; have Hz1 := Hid.mk' hz1; have Hz2 := Hid.mk' hz2
  clear hO hn hi0 hz0 hz1 hz2 hv
  generalize hd : l ++ Jn.num x = done at *
  generalize hq : n + (Jn.num x).length = m at *
  clear hd
  have hm : m ≤ 1000000006 := by omega
  clear hq hlx
  go_enter Tryd.func76, Tryd.ntmps76
  go_wp2
  go_loopw [0, 5] (fun va vr wr => ∃ (r k : Nat) (p : List UInt8) (ao' : Option Addr) (ca : Nat), r ≤ x ∧ va = .slice ao' k ca ∧ vr = .int .i64 r ∧ NmRel w base p r ao' ca k done wr) (fun _ vr _ => (intOf vr).toNat)
  case atStart => exact ⟨x, n, l, ao, cap, Nat.le_refl _, rfl, by first | rfl | rw [hw], H0.out⟩
  case round =>
    obtain ⟨r, k, p, ao', ca, hr, rfl, rfl, hR⟩ := hrel
    have HR := Hid.mk' hR
    have hk := HL.out k r p hR.all hR.len
    have hpo := Jn.num_pos r
    have hkm : k ≤ 1000000006 := by omega
    clear hR hpo hk
    by_cases hlt : r < 128
    · have t0 : decide ((r : Int) ≥ 128) = false := by rw [decide_eq_false_iff_not]; omega
      have hwb := wrap_byte (x := r) (by omega)
      have HN := Hid.mk' (Jn.num_small hlt)
      generalize UInt8.ofNat r = c at *
      have hlt' : ¬ (128 : Int) ≤ r := by omega
      go_wp2_with (at_builtin; refine wpList_append_b rfl (.tmp 19) (.tmp 22) 43 rfl base 5 i0 Tryd.underlying43 Hi.out Hz0.out Hz1.out Hz2.out (l := p) (l2 := [c]) rfl HR.out.len (HR.out.own.alloc _) rfl rfl (IsB.one _ _ _ _) (by omega) (by rw [World.size_alloc]; have := HR.out.below.size; omega) ?_; intro ao3 cap3 w3 hO3 hG3; have HO3 := Hid.mk' hO3; have HG3 := Hid.mk' hG3; clear hO3 hG3)
      go_ret
      have h1 := HR.out.below.alloc (by have := HR.out.below.size; omega) (.cells #[.int .u8 (c.toNat : Int)] 5)
      have hal := HR.out.all
      have hl2 := HL.out k r p hal HR.out.len
      rw [HN.out] at hal hl2
      refine ⟨ao3, cap3, by rw [← hl2]; rfl, by rw [← hal]; exact HO3.out, h1.trans (grown_base (HR.out.own.alloc _) HG3.out (by have := h1.size; omega))⟩
    · have t0 : decide ((r : Int) ≥ 128) = true := by rw [decide_eq_true_eq]; omega
      have hwb := wrap_byte (x := r % 128 + 128) (by omega)
      have e1 : (((r % 128 + 128 : Nat)) : Int) = (r : Int) % 128 + 128 := by omega
      rw [e1] at hwb
      have HM := Hid.mk' (@NmRel.more w base p r ao' ca k done wr HR.out hb hlt _ rfl)
      generalize UInt8.ofNat (r % 128 + 128) = c at *
      have hlt' : (128 : Int) ≤ r := by omega
      have e2 : ((r / 128 : Nat) : Int) = (r : Int) / 128 := by omega
      clear e1
      go_wp2_with (at_builtin; refine wpList_append_b rfl (.tmp 10) (.tmp 15) 43 rfl base 5 i0 Tryd.underlying43 Hi.out Hz0.out Hz1.out Hz2.out (l := p) (l2 := [c]) rfl HR.out.len (HR.out.own.alloc _) rfl rfl (IsB.one _ _ _ _) (by omega) (by rw [World.size_alloc]; have := HR.out.below.size; omega) ?_; intro ao3 cap3 w3 hO3 hG3; have HO3 := Hid.mk' hO3; have HG3 := Hid.mk' hG3; clear hO3 hG3)
      go_roundw
      case rel => exact ⟨r / 128, k + 1, p ++ [c], ao3, cap3, by omega, rfl, by rw [e2], HM.out _ _ _ _ HO3.out HG3.out⟩
      case measure => simp [intOf]; omega
set_option maxHeartbeats 1000000 in
theorem seven_any (x : Nat) (hx : x ≤ 1000000000000) (w : World) (v : Int) (hv : v + 1 = x) :
    Calls Tryd.prog 53 #[.int .i64 v] w fun e w' => ∃ ao' cap', e = .returned (.slice ao' (Jn.num x).length cap') ∧ OwnB w' w.heap.size 5 ao' cap' (Jn.num x) ∧ Below w.heap.size w w' := by
  have hO := OwnB.nil w w.heap.size 5
  have H0 : Hid (NmRel w w.heap.size [] x none 0 0 (Jn.num x) w) := ⟨hO, rfl, Below.refl _ _, rfl⟩
  have HL : Hid (∀ k r p, p ++ Jn.num r = Jn.num x → p.length = k → k + (Jn.num r).length = (Jn.num x).length) := fun k r p e e2 => by
    have := congrArg List.length e
    rw [List.length_append] at this; omega
  have hlx : (Jn.num x).length ≤ 6 := Jn.num_len 5 x (by omega)
  have hw : IntKind.i64.wrap (v + 1) = x := by rw [hv]; exact wrap_id (by omega) (by omega)
  obtain ⟨i0, hi0, hz0, hz1, hz2⟩ := info_parts info_u8
  have Hi := Hid.mk' hi0; have Hz0 := Hid.mk' hz0; have Hz1 := Hid.mk' hz1; have Hz2 := Hid.mk' hz2
  clear hO hi0 hz0 hz1 hz2 hv
  
  generalize hd : Jn.num x = done at *
  clear hd
  generalize hq : done.length = m at *
  clear hq
  have hb : w.heap.size ≤ w.heap.size := Nat.le_refl _
  go_enter Tryd.func53, Tryd.ntmps53
  go_wp2
  go_loopw [3, 0] (fun va vr wr => ∃ (r k : Nat) (p : List UInt8) (ao' : Option Addr) (ca : Nat), r ≤ x ∧ va = .slice ao' k ca ∧ vr = .int .i64 r ∧ NmRel w w.heap.size p r ao' ca k done wr) (fun _ vr _ => (intOf vr).toNat)
  case atStart => exact ⟨x, 0, [], none, 0, Nat.le_refl _, rfl, by first | rfl | rw [hw], H0.out⟩
  case round =>
    obtain ⟨r, k, p, ao', ca, hr, rfl, rfl, hR⟩ := hrel
    have HR := Hid.mk' hR
    have hk := HL.out k r p hR.all hR.len
    have hpo := Jn.num_pos r
    have hkm : k ≤ 6 := by omega
    clear hR hpo hk
    by_cases hlt : r < 128
    · have t0 : decide ((r : Int) ≥ 128) = false := by rw [decide_eq_false_iff_not]; omega
      have hwb := wrap_byte (x := r) (by omega)
      have HN := Hid.mk' (Jn.num_small hlt)
      generalize UInt8.ofNat r = c at *
      have hlt' : ¬ (128 : Int) ≤ r := by omega
      go_wp2_with (at_builtin; refine wpList_append_b rfl (.tmp 17) (.tmp 20) 43 rfl w.heap.size 5 i0 Tryd.underlying43 Hi.out Hz0.out Hz1.out Hz2.out (l := p) (l2 := [c]) rfl HR.out.len (HR.out.own.alloc _) rfl rfl (IsB.one _ _ _ _) (by omega) (by rw [World.size_alloc]; have := HR.out.below.size; omega) ?_; intro ao3 cap3 w3 hO3 hG3; have HO3 := Hid.mk' hO3; have HG3 := Hid.mk' hG3; clear hO3 hG3)
      go_ret
      have h1 := HR.out.below.alloc (by have := HR.out.below.size; omega) (.cells #[.int .u8 (c.toNat : Int)] 5)
      have hal := HR.out.all
      have hl2 := HL.out k r p hal HR.out.len
      rw [HN.out] at hal hl2
      refine ⟨ao3, cap3, by rw [← hl2]; rfl, by rw [← hal]; exact HO3.out, h1.trans (grown_base (HR.out.own.alloc _) HG3.out (by have := h1.size; omega))⟩
    · have t0 : decide ((r : Int) ≥ 128) = true := by rw [decide_eq_true_eq]; omega
      have hwb := wrap_byte (x := r % 128 + 128) (by omega)
      have e1 : (((r % 128 + 128 : Nat)) : Int) = (r : Int) % 128 + 128 := by omega
      rw [e1] at hwb
      have HM := Hid.mk' (@NmRel.more w w.heap.size p r ao' ca k done wr HR.out hb hlt _ rfl)
      generalize UInt8.ofNat (r % 128 + 128) = c at *
      have hlt' : (128 : Int) ≤ r := by omega
      have e2 : ((r / 128 : Nat) : Int) = (r : Int) / 128 := by omega
      clear e1
      go_wp2_with (at_builtin; refine wpList_append_b rfl (.tmp 8) (.tmp 13) 43 rfl w.heap.size 5 i0 Tryd.underlying43 Hi.out Hz0.out Hz1.out Hz2.out (l := p) (l2 := [c]) rfl HR.out.len (HR.out.own.alloc _) rfl rfl (IsB.one _ _ _ _) (by omega) (by rw [World.size_alloc]; have := HR.out.below.size; omega) ?_; intro ao3 cap3 w3 hO3 hG3; have HO3 := Hid.mk' hO3; have HG3 := Hid.mk' hG3; clear hO3 hG3)
      go_roundw
      case rel => exact ⟨r / 128, k + 1, p ++ [c], ao3, cap3, by omega, rfl, by rw [e2], HM.out _ _ _ _ HO3.out HG3.out⟩
      case measure => simp [intOf]; omega
end Go.Proofs.YtanpocgojmflgaaDoor

/- The statements' own: greatStore. -/
namespace Go.Proofs.YtanpocgojmflgaaDoor
open Go.RowKit

set_option maxHeartbeats 800000 in
theorem greatStore_any (l : List Stp) (ao : Option Addr) (cap n : Nat) (w : World) (hl : IsV w ao cap n (stpV l)) (hn : l.length = n) (hz : ∀ p ∈ l, p.text.size ≤ 140737488355328) (hN : n ≤ 9223372036854775807) :
    Calls Tryd.prog 6 #[.slice ao n cap] w fun e w' => ∃ b : Bool, e = .returned (.bool b) ∧ (b = false → l.length ≤ 150 ∧ stpN l ≤ 20000) ∧ w' = w := by
  subst hn
  have H := Hid.mk' hl
  have hcap := hl.1
  clear hl
  by_cases h150 : 150 < l.length
  · have t150 : decide ((l.length : Int) > 150) = true := by rw [decide_eq_true_eq]; omega
    clear hz
    go_enter Tryd.func6, Tryd.ntmps6
    go_wp2
    go_loop [3, 4] (fun v t => ∃ (k : Nat) (z : Int), k ≤ l.length ∧ t = .int .i64 k ∧ v = .int .i64 z) (fun _ t => l.length - (intOf t).toNat)
    case atStart => exact ⟨0, 0, Nat.zero_le _, rfl, rfl⟩
    case round =>
      obtain ⟨k, z, hk, rfl, rfl⟩ := hrel
      by_cases hlt : k < l.length
      · obtain ⟨bb, oo, rfl, hc0, hc1, hc2, hc3⟩ := stp_at H.out k hlt
        have hlt' : (k : Int) < l.length := by omega
        generalize l[k] = p at *
        go_wp2
        go_round
        case rel => exact ⟨k + 1, _, by omega, by go_num, rfl⟩
        case measure => simp [intOf]; omega
      · obtain rfl : k = l.length := by omega
        go_wp2
        go_ret
        exact Or.inr ⟨rfl, rfl⟩
  · have t150 : decide ((l.length : Int) > 150) = false := by rw [decide_eq_false_iff_not]; omega
    have hb := stpN_bound l hz
    clear hz
    go_enter Tryd.func6, Tryd.ntmps6
    go_wp2
    go_loop [3, 4] (fun v t => ∃ k : Nat, k ≤ l.length ∧ t = .int .i64 k ∧ v = .int .i64 (stpN (l.take k) : Int)) (fun _ t => l.length - (intOf t).toNat)
    case atStart => exact ⟨0, Nat.zero_le _, rfl, rfl⟩
    case round =>
      obtain ⟨k, hk, rfl, rfl⟩ := hrel
      have hu := stpN_le l k
      by_cases hlt : k < l.length
      · obtain ⟨bb, oo, rfl, hc0, hc1, hc2, hc3⟩ := stp_at H.out k hlt
        have hlt' : (k : Int) < l.length := by omega
        have HT : Hid (stpN (l.take (k + 1)) = stpN (l.take k) + l[k].text.size) := stpN_take l k hlt
        have hone := stpN_one l k hlt
        generalize l[k] = p at *
        generalize stpN (l.take k) = q at *
        go_wp2
        go_round
        case rel => exact ⟨k + 1, by omega, by go_num, by rw [HT.out]; go_num⟩
        case measure => simp [intOf]; omega
      · obtain rfl : k = l.length := by omega
        rw [List.take_length] at hu ⊢
        by_cases hg : 20000 < stpN l
        · have tg : decide ((stpN l : Int) > 20000) = true := by rw [decide_eq_true_eq]; omega
          go_wp2
          go_ret
          exact Or.inr ⟨rfl, rfl⟩
        · have tg : decide ((stpN l : Int) > 20000) = false := by rw [decide_eq_false_iff_not]; omega
          go_wp2
          go_ret
          exact Or.inl ⟨rfl, ⟨by omega, by omega⟩, rfl⟩
end Go.Proofs.YtanpocgojmflgaaDoor

/- The document's own answer, walked: SameBytes. -/
namespace Go.Proofs.YtanpocgojmflgaaDoor
open Go.RowKit

theorem same_lists (a b : List UInt8) : ((⟨a.toArray⟩ : ByteArray).toList == (⟨b.toArray⟩ : ByteArray).toList) = decide (a = b) := by
  rw [Lib.toList_data, Lib.toList_data, Bool.eq_iff_iff]; simp

theorem sameBytes_any (w : World) (ao1 ao2 : Option Addr) (cap1 cap2 n1 n2 : Nat) (l1 l2 : List UInt8) (hn1 : l1.length = n1) (hn2 : l2.length = n2) (h1 : IsB w ao1 cap1 l1) (h2 : IsB w ao2 cap2 l2) :
    Calls Tryd.prog 14 #[.slice ao1 n1 cap1, .slice ao2 n2 cap2] w fun e w' => e = .returned (.bool (decide (l1 = l2))) ∧ w' = w := by
  subst hn1; subst hn2
  have q1 := h1.str (P := Tryd.prog) 43 9 5 Tryd.underlying43 Tryd.underlying5 Tryd.underlying9
  have q2 := h2.str (P := Tryd.prog) 43 9 5 Tryd.underlying43 Tryd.underlying5 Tryd.underlying9
  have HS := Hid.mk' (same_lists l1 l2)
  generalize (⟨l1.toArray⟩ : ByteArray) = s1 at q1 HS
  generalize (⟨l2.toArray⟩ : ByteArray) = s2 at q2 HS
  clear h1 h2
  go_enter Tryd.func14, Tryd.ntmps14
  go_wp2
  go_ret
  exact ⟨ret_bool HS.out, rfl⟩
end Go.Proofs.YtanpocgojmflgaaDoor
