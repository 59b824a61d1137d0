/- FieldsDoes, walked. -/
import Derived.Test.YtenanljodjkonabDoorFdLawB
import Derived.Test.YtenanljodjkonabDoorFdAll
import Derived.Test.YtenanljodjkonabDoorRfFText
namespace Go.Proofs.YtenanljodjkonabDoor
open Go.RowKit

/-- Parse of a line, and what the document says of it -/
theorem parse_both (l : ByteArray) (hl : l.size ≤ 2000) : ∃ (gn gv : ByteArray) (c : Nat), (∀ W, Calls Tryd.prog 7 #[.string l] W fun e w' => e = .returned (.tuple #[.agg #[.string gn, .string gv], .int .i64 (c : Int)]) ∧ Below W.heap.size W w') ∧
    (∀ W, Calls Tryd.prog 8 #[.string l] W fun e w' => e = .returned (.tuple #[.agg #[.string gn, .string gv], .int .i64 (c : Int)]) ∧ Below W.heap.size W w') :=
  ⟨⟨(Fd.of l.data.toList).name.toArray⟩, ⟨(Fd.of l.data.toList).value.toArray⟩, (Fd.of l.data.toList).code, fun W => parse_any l W hl, fun W => fieldOf_any l W (by omega)⟩
/-- Text of a field, and what the document says of it -/
theorem text_both (n v : ByteArray) (hn : n.size ≤ 2000) (hv : v.size ≤ 2000) : ∃ (tx : ByteArray) (c : Nat), (∀ W, Calls Tryd.prog 9 #[.agg #[.string n, .string v]] W fun e w' => e = .returned (.tuple #[.string tx, .int .i64 (c : Int)]) ∧ Below W.heap.size W w') ∧
    (∀ W, Calls Tryd.prog 10 #[.agg #[.string n, .string v]] W fun e w' => e = .returned (.tuple #[.string tx, .int .i64 (c : Int)]) ∧ Below W.heap.size W w') :=
  ⟨⟨(Fd.text n.data.toList v.data.toList).1.toArray⟩, (Fd.text n.data.toList v.data.toList).2, fun W => text_any n v W hn hv, fun W => fieldText_any n v W (by omega) (by omega)⟩
/-- One, and what the document says of it -/
theorem one_both (l : List (ByteArray × ByteArray)) (name : ByteArray) (ao : Option Addr) (cap n : Nat) (hn : l.length = n) (hN : n ≤ 1000000) (hs : ∀ p ∈ l, p.1.size ≤ 2000 ∧ p.2.size ≤ 2000) (hnm : name.size ≤ 2000) : ∃ (tx : ByteArray) (c : Nat), (∀ W, IsV W ao cap n (pairV l) → Calls Tryd.prog 13 #[.slice ao n cap, .string name] W fun e w' => e = .returned (.tuple #[.string tx, .int .i64 (c : Int)]) ∧ Below W.heap.size W w') ∧
    (∀ W, IsV W ao cap n (pairV l) → Calls Tryd.prog 14 #[.slice ao n cap, .string name] W fun e w' => e = .returned (.tuple #[.string tx, .int .i64 (c : Int)]) ∧ Below W.heap.size W w') :=
  ⟨⟨(Fd.one (Fd.vals name l)).1.toArray⟩, (Fd.one (Fd.vals name l)).2, fun W h => fdOne_any l name ao cap n W h hn hN hs hnm, fun W h => oneOf_any l name ao cap n W h hn hN (fun p hp => (hs p hp).1) hnm⟩

set_option maxRecDepth 100000 in
set_option maxHeartbeats 1600000 in
theorem fieldsDoes_any (line n v name : ByteArray) (l : List (ByteArray × ByteArray)) (al : Option Addr) (cap : Nat) (w : World) (hl : IsV w al cap l.length (pairV l)) (zl : ∀ q ∈ l, q.1.size ≤ reachBytes ∧ q.2.size ≤ reachBytes) (hn : n.size ≤ reachBytes) (hv : v.size ≤ reachBytes) :
    Calls Tryd.prog 3 #[.string line, .agg #[.string n, .string v], .slice al l.length cap, .string name] w fun e w' => e = .returned (.bool true) ∧ Below w.heap.size w w' := by
  have HG : Hid (∀ W : World, Calls Tryd.prog 6 #[.slice (some ⟨W.heap.size, 0, none⟩) 1 1] (W.alloc (.cells #[.string n, .string v] 23)) fun e w' => ∃ b : Bool, e = .returned (.bool b) ∧ (b = false → n.size + v.size ≤ 1000) ∧ ∃ q, w' = (W.alloc (.cells #[.string n, .string v] 23)).drewN q) := fun W => by
    refine (greatFields_any [(n, v)] _ 1 1 (W.alloc (.cells #[.string n, .string v] 23)) (IsV.made W #[.string n, .string v] 1 _ _) rfl (fun p hp => by rw [List.mem_singleton] at hp; subst hp; show n.size + v.size ≤ maxLen; unfold reachBytes at hn hv; unfold maxLen; omega)).mono ?_
    rintro e w' ⟨b, rfl, h, hq⟩
    exact ⟨b, rfl, fun e => (h e).2 (n, v) (List.mem_singleton.2 rfl), hq⟩
  have HGl : Hid (∀ W : World, Below w.heap.size w W → Calls Tryd.prog 6 #[.slice al l.length cap] W fun e w' => ∃ b : Bool, e = .returned (.bool b) ∧ (b = false → SmallF l) ∧ ∃ q, w' = W.drewN q) := fun W hb =>
    greatFields_any l al cap l.length W (hl.stay hb) rfl (fun p hp => by have := zl p hp; unfold reachBytes at this; unfold maxLen; omega)
  have HL := Hid.mk' hl
  clear hl zl hn hv
  go_enter Tryd.func3, Tryd.ntmps3
  go_wp2_with fail
  refine (fieldsBegun_any _).mono ?_
  rintro e w1 ⟨rfl, hb1⟩
  have X1 := Hid.mk' ((BoxAt.made w n v _).stay hb1)
  clear hb1
  by_cases h1 : 2000 < line.size
  · have t1 : decide ((line.size : Int) > 2000) = true := by rw [decide_eq_true_eq]; omega
    go_wp2
    go_ret
    exact ⟨rfl, X1.out.below⟩
  have t1 : decide ((line.size : Int) > 2000) = false := by rw [decide_eq_false_iff_not]; omega
  by_cases h2 : 1000 < name.size
  · have t2 : decide ((name.size : Int) > 1000) = true := by rw [decide_eq_true_eq]; omega
    go_wp2
    go_ret
    exact ⟨rfl, X1.out.below⟩
  have t2 : decide ((name.size : Int) > 1000) = false := by rw [decide_eq_false_iff_not]; omega
  go_wp2_with fail
  refine (HGl.out _ X1.out.below).mono ?_
  rintro e w2 ⟨b, rfl, hsm, q, hw⟩
  have X2 : Hid (BoxAt w n v w2) := by rw [hw]; exact X1.out.stay (drewN_below ⟨q, rfl⟩)
  clear hw HGl X1
  cases b
  case true =>
    go_wp2
    go_ret
    exact ⟨rfl, X2.out.below⟩
  have HS := Hid.mk' (hsm rfl)
  clear hsm
  have c0 := X2.out.c0
  have c1 := X2.out.c1
  go_wp2_with fail
  refine (HG.out _).mono ?_
  rintro e w3 ⟨b, rfl, hsm, q3, hw⟩
  have X3 : Hid (BoxAt w n v w3) := by
    rw [hw]; exact X2.out.stay (((Below.refl _ _).alloc (Nat.le_refl _) _).trans ⟨rfl, rfl, rfl, Nat.le_refl _, fun _ _ => rfl⟩)
  clear hw HG X2 c0 c1
  cases b
  case true =>
    go_wp2
    go_ret
    exact ⟨rfl, X3.out.below⟩
  have hs := hsm rfl
  clear hsm
  obtain ⟨gn, gv, d, HP0, HR0⟩ := parse_both line (by omega)
  obtain ⟨tx, c, HT0, HU0⟩ := text_both n v (by omega) (by omega)
  have hsl : ∀ p ∈ l, p.1.size ≤ 2000 ∧ p.2.size ≤ 2000 := fun p hp => by have := HS.out.2 p hp; omega
  have hll := HS.out.1
  obtain ⟨ox, oc, HO0, HQ0⟩ := one_both l name al cap l.length rfl (by omega) hsl (by omega)
  have HP := Hid.mk' HP0; have HR := Hid.mk' HR0; have HT := Hid.mk' HT0; have HU := Hid.mk' HU0; have HO := Hid.mk' HO0; have HQ := Hid.mk' HQ0
  have HA := Hid.mk' (fun (W : World) (h : IsV W al cap l.length (pairV l)) => fdAll_any l name al cap l.length W h rfl (by omega) hsl (by omega))
  have HV := Hid.mk' (fun (W : World) (h : IsV W al cap l.length (pairV l)) => valuesOf_any l name al cap l.length W h rfl (by omega) (fun p hp => (hsl p hp).1) (by omega))
  have hvl := Fd.vals_length name l
  clear HP0 HR0 HT0 HU0 HO0 HQ0 hsl HS
  generalize Fd.vals name l = vs at HA HV hvl
  have hqe : ∀ a b : ByteArray, ((a.toList == a.toList) && (b.toList == b.toList)) = true := fun a b => by rw [beq_self_eq_true, beq_self_eq_true]; rfl
  have hgu := guard_field
  have hne := fun W => neq_field gn gv gn gv W
  rw [hqe gn gv] at hne
  clear hqe
  go_wp2_with fail
  refine (HP.out _).mono ?_
  rintro e w4 ⟨rfl, hb4⟩
  have X4 := Hid.mk' ((X3.out.stay hb4).alloc (.cells #[.string gn, .string gv] 23))
  clear hb4 X3 HP
  go_wp2_with fail
  refine (HR.out _).mono ?_
  rintro e w5 ⟨rfl, hb5⟩
  have XA := Hid.mk' (((BoxAt.made w4 gn gv _).stay hb5).alloc (.cells #[.string gn, .string gv] 23))
  have X5 := Hid.mk' ((X4.out.stay hb5).alloc (.cells #[.string gn, .string gv] 23))
  have c0 := X5.out.c0
  have c1 := X5.out.c1
  clear hb5 X4 HR
  go_wp2_with fail
  refine (HT.out _).mono ?_
  rintro e w6 ⟨rfl, hb6⟩
  have XA6 := Hid.mk' (XA.out.stay hb6)
  have XB6 := Hid.mk' ((BoxAt.made w5 gn gv _).stay hb6)
  have X6 := Hid.mk' (X5.out.stay hb6)
  clear hb6 X5 HT XA c0 c1
  have c0 := X6.out.c0
  have c1 := X6.out.c1
  go_wp2_with fail
  refine (HU.out _).mono ?_
  rintro e w7 ⟨rfl, hb7⟩
  have XA7 := Hid.mk' (XA6.out.stay hb7)
  have XB7 := Hid.mk' (XB6.out.stay hb7)
  have B7 := Hid.mk' (X6.out.stay hb7).below
  have a0 := XA7.out.c0
  have a1 := XA7.out.c1
  have b0 := XB7.out.c0
  have b1 := XB7.out.c1
  clear hb7 X6 HU XA6 XB6 c0 c1
  go_wp2_with fail
  refine (HA.out _ (HL.out.stay B7.out)).mono ?_
  rintro e w8 ⟨ao1, cap1, rfl, hO1, hb8⟩
  have O1 := Hid.mk' hO1
  have B8 := Hid.mk' (then_ B7.out hb8)
  clear hO1 hb8 HA XA7 XB7 a0 a1 b0 b1 B7 hne
  go_wp2_with fail
  refine (HV.out _ (HL.out.stay B8.out)).mono ?_
  rintro e w9 ⟨ao2, cap2, rfl, hO2, hb9⟩
  have O2 := Hid.mk' hO2
  have O1' := Hid.mk' (O1.out.stay hb9)
  have B9 := Hid.mk' (then_ B8.out hb9)
  clear hO2 hb9 HV O1 B8
  go_wp2
  go_loopw [19] (fun t wr => ∃ k q : Nat, k ≤ vs.length ∧ t = .int .i64 k ∧ wr = w9.drewN q) (fun t _ => vs.length - (intOf t).toNat)
  case atStart => exact ⟨0, 0, Nat.zero_le _, rfl, rfl⟩
  case round =>
    obtain ⟨k, q, hk, rfl, rfl⟩ := hrel
    by_cases hlt : k < vs.length
    · obtain ⟨b1, o1, rfl, hcs1⟩ := O1'.out.isV.lit (by rw [strV_length]; omega)
      obtain ⟨b2, o2, rfl, hcs2⟩ := O2.out.isV.lit (by rw [strV_length]; omega)
      have d1 := hcs1 k _ (strV_at vs k hlt)
      have d2 := hcs2 k _ (strV_at vs k hlt)
      clear hcs1 hcs2
      have hlt' : (k : Int) < vs.length := by omega
      generalize vs[k] = p at d1 d2
      go_wp2
      go_quiet (fail)
      go_wp2
      go_roundw
      case rel => exact ⟨k + 1, q + nq, by omega, by go_num, by simp⟩
      case measure => simp [intOf]; omega
    · obtain rfl : k = vs.length := by omega
      have B10 : Hid (Below w.heap.size w (w9.drewN q)) := B9.out.trans ⟨rfl, rfl, rfl, Nat.le_refl _, fun _ _ => rfl⟩
      go_wp2_with fail
      refine (HO.out _ (HL.out.stay B10.out)).mono ?_
      rintro e w11 ⟨rfl, hb11⟩
      have B11 := Hid.mk' (then_ B10.out hb11)
      clear hb11 HO
      go_wp2_with fail
      refine (HQ.out _ (HL.out.stay B11.out)).mono ?_
      rintro e w12 ⟨rfl, hb12⟩
      have B12 := Hid.mk' (then_ B11.out hb12)
      clear hb12 HQ
      go_wp2
      go_ret
      exact ⟨rfl, B12.out⟩
end Go.Proofs.YtenanljodjkonabDoor
