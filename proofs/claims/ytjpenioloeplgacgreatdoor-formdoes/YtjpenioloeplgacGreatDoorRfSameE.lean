/- The document's own answer, walked where both are the same: SameFields, SameHead, SamePart, SameEvents. -/
import Derived.Test.YtjpenioloeplgacGreatDoorPk4
import Derived.Test.YtjpenioloeplgacGreatDoorPk9
import Derived.Test.YtjpenioloeplgacGreatDoorPk10
import Derived.Deep.RegionHeld3
namespace Go.Proofs.YtjpenioloeplgacGreatDoor
open Go.RowKit

set_option maxHeartbeats 800000 in
theorem sameFields_yes (l : List (ByteArray × ByteArray)) (a1 a2 : Option Addr) (c1 c2 : Nat) (w : World) (h1 : IsV w a1 c1 l.length (pairV l)) (h2 : IsV w a2 c2 l.length (pairV l)) (hN : l.length ≤ 4398046511104) :
    Calls Tryz.prog 83 #[.slice a1 l.length c1, .slice a2 l.length c2] w fun e w' => e = .returned (.bool true) ∧ ∃ n, w' = w.drewN n := by
  have H1 := Hid.mk' h1; have H2 := Hid.mk' h2
  clear h1 h2
  go_enter Tryz.func83, Tryz.ntmps83
  go_wp2
  go_loopw [5] (fun t wr => ∃ k q : Nat, k ≤ l.length ∧ t = .int .i64 k ∧ wr = w.drewN q) (fun t _ => l.length - (intOf t).toNat)
  case atStart => exact ⟨0, 0, Nat.zero_le _, rfl, rfl⟩
  case round =>
    obtain ⟨k, q, hk, rfl, rfl⟩ := hrel
    by_cases hlt : k < l.length
    · obtain ⟨b1, o1, rfl, hcs1⟩ := H1.out.lit (by rw [pairV_length]; omega)
      obtain ⟨b2, o2, rfl, hcs2⟩ := H2.out.lit (by rw [pairV_length]; omega)
      have d0 := hcs1 _ _ (pairV_at l k hlt).1
      have d1 := hcs1 _ _ (pairV_at l k hlt).2
      have f0 := hcs2 _ _ (pairV_at l k hlt).1
      have f1 := hcs2 _ _ (pairV_at l k hlt).2
      rw [← Nat.add_assoc] at d1 f1
      clear hcs1 hcs2
      have e1 : (k : Int) < l.length := by omega
      have hne := fun W => neq_field l[k].1 l[k].2 l[k].1 l[k].2 W
      have hgu := guard_field
      generalize l[k] = p1 at *
      have hq : (!((p1.1.toList == p1.1.toList) && (p1.2.toList == p1.2.toList))) = false := by rw [beq_self_eq_true, beq_self_eq_true]; rfl
      rw [hq] at hne
      go_wp2
      go_quiet (fail)
      go_wp2
      go_roundw
      case rel => exact ⟨k + 1, q + nq, by omega, by go_num, by simp⟩
      case measure => simp [intOf]; omega
    · go_wp2
      go_ret
      exact ⟨rfl, q, rfl⟩

set_option maxHeartbeats 800000 in
theorem sameHead_yes (m t : ByteArray) (mi k : Int) (l : List (ByteArray × ByteArray)) (a1 a2 : Option Addr) (c1 c2 : Nat) (w : World) (h1 : IsV w a1 c1 l.length (pairV l)) (h2 : IsV w a2 c2 l.length (pairV l)) (hN : l.length ≤ 4398046511104) :
    Calls Tryz.prog 45 #[.agg #[.string m, .string t, .int .i64 mi, .slice a1 l.length c1, .int .i64 k], .agg #[.string m, .string t, .int .i64 mi, .slice a2 l.length c2, .int .i64 k]] w fun e w' => e = .returned (.bool true) ∧ Below w.heap.size w w' := by
  have hB : Below w.heap.size w ((w.alloc (.cells #[.string m, .string t, .int .i64 mi, .slice a1 l.length c1, .int .i64 k] 25)).alloc (.cells #[.string m, .string t, .int .i64 mi, .slice a2 l.length c2, .int .i64 k] 25)) := ((Below.refl _ _).alloc (Nat.le_refl _) _).alloc (by simp) _
  have HS := Hid.mk' (sameFields_yes l a1 a2 c1 c2 _ (h1.stay hB) (h2.stay hB) hN)
  have HB := Hid.mk' hB
  have t1 : (m.toList == m.toList) = true := beq_self_eq_true _
  have t2 : (t.toList == t.toList) = true := beq_self_eq_true _
  clear h1 h2 hB
  go_enter Tryz.func45, Tryz.ntmps45
  go_wp2_with fail
  refine HS.out.mono ?_
  rintro e w1 ⟨rfl, hw⟩
  have HB1 := Hid.mk' (then_ HB.out (drewN_below hw))
  clear hw
  go_wp2
  go_ret
  exact ⟨rfl, HB1.out⟩

set_option maxRecDepth 100000 in
set_option maxHeartbeats 1600000 in
theorem sameEvents_yes (es : List EvD) (a1 a2 : Option Addr) (c1 c2 : Nat) (w : World) (h1 : IsEs w a1 c1 es) (h2 : IsEs w a2 c2 es) (hN : es.length ≤ 1000000) (hF : ∀ e ∈ es, e.fields.length ≤ 4398046511104) :
    Calls Tryz.prog 14 #[.slice a1 es.length c1, .slice a2 es.length c2] w fun e w' => e = .returned (.bool true) ∧ Below w.heap.size w w' := by
  have H1 := Hid.mk' h1; have H2 := Hid.mk' h2; have HFs := Hid.mk' hF
  have hc1 := h1.1
  have hc2 := h2.1
  clear h1 h2 hF
  go_enter Tryz.func14, Tryz.ntmps14
  go_wp2
  go_loopw [5] (fun t wr => ∃ k : Nat, k ≤ es.length ∧ t = .int .i64 k ∧ Below w.heap.size w wr) (fun t _ => es.length - (intOf t).toNat)
  case atStart => exact ⟨0, Nat.zero_le _, rfl, Below.refl _ _⟩
  case round =>
    obtain ⟨k, hk, rfl, hB⟩ := hrel
    have HB := Hid.mk' hB
    clear hB
    by_cases hlt : k < es.length
    · obtain ⟨b1, o1, rfl, hcs1⟩ := H1.out.lit (by omega)
      obtain ⟨b2, o2, rfl, hcs2⟩ := H2.out.lit (by omega)
      obtain ⟨s1, hE1⟩ := hcs1 k hlt
      obtain ⟨s2, hE2⟩ := hcs2 k hlt
      have e1 : (k : Int) < es.length := by omega
      have hf := HFs.out es[k] (List.getElem_mem hlt)
      clear hcs1 hcs2
      generalize es[k] = e at *
      have HE1 := Hid.mk' hE1; have HE2 := Hid.mk' hE2
      clear hE1 hE2
      have hcl : ∀ W, Below w.heap.size w W → W.cell? ⟨b1, o1 + k * 12, none⟩ = some (.int .i64 e.kind) ∧ W.cell? ⟨b1, o1 + k * 12 + 1, none⟩ = some (.string e.method) ∧ W.cell? ⟨b1, o1 + k * 12 + 2, none⟩ = some (.string e.target) ∧ W.cell? ⟨b1, o1 + k * 12 + 3, none⟩ = some (.int .i64 e.minor) ∧ W.cell? ⟨b1, o1 + k * 12 + 4, none⟩ = some (.slice s1.fo e.fields.length s1.fcap) ∧ W.cell? ⟨b1, o1 + k * 12 + 5, none⟩ = some (.int .i64 e.length) ∧ W.cell? ⟨b1, o1 + k * 12 + 6, none⟩ = some (.slice s1.bo e.bytes.length s1.bcap) ∧ W.cell? ⟨b1, o1 + k * 12 + 7, none⟩ = some (.string e.pname) ∧ W.cell? ⟨b1, o1 + k * 12 + 8, none⟩ = some (.string e.pfile) ∧ W.cell? ⟨b1, o1 + k * 12 + 9, none⟩ = some (.string e.ptype) ∧ W.cell? ⟨b1, o1 + k * 12 + 10, none⟩ = some (.slice s1.po e.pbytes.length s1.pcap) ∧ W.cell? ⟨b1, o1 + k * 12 + 11, none⟩ = some (.int .i64 e.code) ∧ W.cell? ⟨b2, o2 + k * 12, none⟩ = some (.int .i64 e.kind) ∧ W.cell? ⟨b2, o2 + k * 12 + 1, none⟩ = some (.string e.method) ∧ W.cell? ⟨b2, o2 + k * 12 + 2, none⟩ = some (.string e.target) ∧ W.cell? ⟨b2, o2 + k * 12 + 3, none⟩ = some (.int .i64 e.minor) ∧ W.cell? ⟨b2, o2 + k * 12 + 4, none⟩ = some (.slice s2.fo e.fields.length s2.fcap) ∧ W.cell? ⟨b2, o2 + k * 12 + 5, none⟩ = some (.int .i64 e.length) ∧ W.cell? ⟨b2, o2 + k * 12 + 6, none⟩ = some (.slice s2.bo e.bytes.length s2.bcap) ∧ W.cell? ⟨b2, o2 + k * 12 + 7, none⟩ = some (.string e.pname) ∧ W.cell? ⟨b2, o2 + k * 12 + 8, none⟩ = some (.string e.pfile) ∧ W.cell? ⟨b2, o2 + k * 12 + 9, none⟩ = some (.string e.ptype) ∧ W.cell? ⟨b2, o2 + k * 12 + 10, none⟩ = some (.slice s2.po e.pbytes.length s2.pcap) ∧ W.cell? ⟨b2, o2 + k * 12 + 11, none⟩ = some (.int .i64 e.code) := fun W hW => ⟨(HE1.out.stay hW).at_ 0 _ rfl, (HE1.out.stay hW).at_ 1 _ rfl, (HE1.out.stay hW).at_ 2 _ rfl, (HE1.out.stay hW).at_ 3 _ rfl, (HE1.out.stay hW).at_ 4 _ rfl, (HE1.out.stay hW).at_ 5 _ rfl, (HE1.out.stay hW).at_ 6 _ rfl, (HE1.out.stay hW).at_ 7 _ rfl, (HE1.out.stay hW).at_ 8 _ rfl, (HE1.out.stay hW).at_ 9 _ rfl, (HE1.out.stay hW).at_ 10 _ rfl, (HE1.out.stay hW).at_ 11 _ rfl, (HE2.out.stay hW).at_ 0 _ rfl, (HE2.out.stay hW).at_ 1 _ rfl, (HE2.out.stay hW).at_ 2 _ rfl, (HE2.out.stay hW).at_ 3 _ rfl, (HE2.out.stay hW).at_ 4 _ rfl, (HE2.out.stay hW).at_ 5 _ rfl, (HE2.out.stay hW).at_ 6 _ rfl, (HE2.out.stay hW).at_ 7 _ rfl, (HE2.out.stay hW).at_ 8 _ rfl, (HE2.out.stay hW).at_ 9 _ rfl, (HE2.out.stay hW).at_ 10 _ rfl, (HE2.out.stay hW).at_ 11 _ rfl⟩
      have HCl := Hid.mk' hcl
      have HSb : Hid (∀ W, Below w.heap.size w W → Calls Tryz.prog 19 #[.slice s1.bo e.bytes.length s1.bcap, .slice s2.bo e.bytes.length s2.bcap] W fun e w' => e = .returned (.bool true) ∧ w' = W) := fun W hW => by
        have h := sameBytes_any W s1.bo s2.bo s1.bcap s2.bcap e.bytes.length e.bytes.length e.bytes e.bytes rfl rfl (HE1.out.stay hW).bytes (HE2.out.stay hW).bytes
        rw [decide_eq_true rfl] at h
        exact h
      have HSh := Hid.mk' (fun W (hW : Below w.heap.size w W) => sameHead_yes e.method e.target e.minor e.length e.fields s1.fo s2.fo s1.fcap s2.fcap W (HE1.out.stay hW).fields (HE2.out.stay hW).fields hf)
      have HSp := Hid.mk' (fun W (hW : Below w.heap.size w W) => samePart_yes e.pname e.pfile e.ptype e.pbytes s1.po s2.po s1.pcap s2.pcap W (HE1.out.stay hW).pbytes (HE2.out.stay hW).pbytes)
      have hbd : Below w.heap.size w wr.drew := HB.out.trans (below_drew _ _)
      have hbr : Below w.heap.size w wr := HB.out
      have hcr := hcl wr HB.out
      clear hcl
      go_wp2
      simp only [List.append]
      go_region_held3 (fun w' => w'.cell? ⟨b1, o1 + k * 12, none⟩ = some (.int .i64 e.kind) ∧ w'.cell? ⟨b1, o1 + k * 12 + 1, none⟩ = some (.string e.method) ∧ w'.cell? ⟨b1, o1 + k * 12 + 2, none⟩ = some (.string e.target) ∧ w'.cell? ⟨b1, o1 + k * 12 + 3, none⟩ = some (.int .i64 e.minor) ∧ w'.cell? ⟨b1, o1 + k * 12 + 4, none⟩ = some (.slice s1.fo e.fields.length s1.fcap) ∧ w'.cell? ⟨b1, o1 + k * 12 + 5, none⟩ = some (.int .i64 e.length) ∧ w'.cell? ⟨b1, o1 + k * 12 + 6, none⟩ = some (.slice s1.bo e.bytes.length s1.bcap) ∧ w'.cell? ⟨b1, o1 + k * 12 + 7, none⟩ = some (.string e.pname) ∧ w'.cell? ⟨b1, o1 + k * 12 + 8, none⟩ = some (.string e.pfile) ∧ w'.cell? ⟨b1, o1 + k * 12 + 9, none⟩ = some (.string e.ptype) ∧ w'.cell? ⟨b1, o1 + k * 12 + 10, none⟩ = some (.slice s1.po e.pbytes.length s1.pcap) ∧ w'.cell? ⟨b1, o1 + k * 12 + 11, none⟩ = some (.int .i64 e.code) ∧ w'.cell? ⟨b2, o2 + k * 12, none⟩ = some (.int .i64 e.kind) ∧ w'.cell? ⟨b2, o2 + k * 12 + 1, none⟩ = some (.string e.method) ∧ w'.cell? ⟨b2, o2 + k * 12 + 2, none⟩ = some (.string e.target) ∧ w'.cell? ⟨b2, o2 + k * 12 + 3, none⟩ = some (.int .i64 e.minor) ∧ w'.cell? ⟨b2, o2 + k * 12 + 4, none⟩ = some (.slice s2.fo e.fields.length s2.fcap) ∧ w'.cell? ⟨b2, o2 + k * 12 + 5, none⟩ = some (.int .i64 e.length) ∧ w'.cell? ⟨b2, o2 + k * 12 + 6, none⟩ = some (.slice s2.bo e.bytes.length s2.bcap) ∧ w'.cell? ⟨b2, o2 + k * 12 + 7, none⟩ = some (.string e.pname) ∧ w'.cell? ⟨b2, o2 + k * 12 + 8, none⟩ = some (.string e.pfile) ∧ w'.cell? ⟨b2, o2 + k * 12 + 9, none⟩ = some (.string e.ptype) ∧ w'.cell? ⟨b2, o2 + k * 12 + 10, none⟩ = some (.slice s2.po e.pbytes.length s2.pcap) ∧ w'.cell? ⟨b2, o2 + k * 12 + 11, none⟩ = some (.int .i64 e.code)) (first | go_keep | exact HCl.out _ (by assumption)) (first
        | (go_at_call 19; refine (HSb.out _ (by assumption)).mono ?_; rintro e' w1 ⟨rfl, rfl⟩)
        | (go_at_call 45; refine (HSh.out _ (by assumption)).mono ?_; rintro e' w2 ⟨rfl, hb2⟩; have hB2 := then_ (w := w) (by assumption) hb2; have hc2 := HCl.out w2 hB2)
        | (go_at_call 46; refine (HSp.out _ (by assumption)).mono ?_; rintro e' w3 ⟨rfl, hb3⟩; have hB3 := then_ (w := w) (by assumption) hb3; have hc3 := HCl.out w3 hB3))
      clear hcr hc2
      rename_i hHeldZ
      clear hHeldZ hc3
      go_wp2
      go_roundw
      case rel => exact ⟨k + 1, by omega, by go_num, hB3⟩
      case measure => simp [intOf]; omega
    · go_wp2
      go_ret
      exact ⟨rfl, HB.out⟩
end Go.Proofs.YtjpenioloeplgacGreatDoor
