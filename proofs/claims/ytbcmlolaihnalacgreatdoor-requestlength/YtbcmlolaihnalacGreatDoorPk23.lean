/- Small texts, one behind the other: PlainRL, RfSmall, RfVals, RfHexOf. -/
import Derived.Test.YtbcmlolaihnalacGreatDoorPk13
import Derived.Test.YtbcmlolaihnalacGreatDoorPk2
import Derived.Test.YtbcmlolaihnalacGreatDoorPk1
import Derived.Test.YtbcmlolaihnalacGreatDoorProg
import Derived.Test.YtbcmlolaihnalacGreatDoorPk8
/- Plain laws of requests of a stream: a length is never two, and just so many bytes of a body come as it says. -/
namespace Go.Proofs.YtbcmlolaihnalacGreatDoor

theorem Ck.trail_body : ∀ (f : Nat) (l : List UInt8) (n : Nat), (Ck.trail f l n).body = []
  | 0, _, _ => rfl
  | f + 1, l, n => by
    rw [Ck.trail]
    split
    · rfl
    · split
      · rfl
      · split
        · rfl
        · split
          · rfl
          · exact Ck.trail_body f _ _
theorem Ck.go_body : ∀ (f : Nat) (l : List UInt8) (n : Nat), n ≤ 4000 → n + (Ck.go f l n).body.length ≤ 4000
  | 0, _, n, h => h
  | f + 1, l, n, h => by
    rw [Ck.go]
    split
    · exact h
    · split
      · exact h
      · split
        · exact h
        · rename_i h4
          split
          · show n + (Ck.trail (f + 1) _ 0).body.length ≤ 4000
            rw [Ck.trail_body]; exact h
          · simp only
            split
            · rename_i hd
              show n + (l.drop (Ln.of l).size).length ≤ 4000
              omega
            · have ht : ((l.drop (Ln.of l).size).take (Ck.size (Ln.of l).text).1.toNat).length ≤ (Ck.size (Ln.of l).text).1.toNat := by rw [List.length_take]; omega
              split
              · show n + ((l.drop (Ln.of l).size).take (Ck.size (Ln.of l).text).1.toNat).length ≤ 4000
                omega
              · split
                · show n + ((l.drop (Ln.of l).size).take (Ck.size (Ln.of l).text).1.toNat).length ≤ 4000
                  omega
                · have ih := Ck.go_body f (((l.drop (Ln.of l).size).drop (Ck.size (Ln.of l).text).1.toNat).drop (Ln.of ((l.drop (Ln.of l).size).drop (Ck.size (Ln.of l).text).1.toNat)).size) (n + (Ck.size (Ln.of l).text).1.toNat) (by omega)
                  show n + (((l.drop (Ln.of l).size).take (Ck.size (Ln.of l).text).1.toNat) ++ _).length ≤ 4000
                  rw [List.length_append]
                  omega
theorem Ck.of_body (l : List UInt8) : (Ck.of l).body.length ≤ 4000 := by
  have := Ck.go_body (l.length + 1) l 0 (by omega)
  unfold Ck.of
  omega

namespace Rq
/-- a head says one length -/
structure HeadOk (h : Hd) : Prop where
  code : vals h.fields nCode ≠ [] → vals h.fields nSize = [] ∧ h.length = -1 ∧ (vals h.fields nCode).length ≤ 1
  most : h.length ≤ 4000
  size : ∀ v ∈ vals h.fields nSize, (Ch.number 10 9 v).2 = true ∧ (Ch.number 10 9 v).1 = h.length
/-- and so many bytes come -/
def Follow (h : Hd) : List Ev → Prop
  | .body b :: r => b.length ≤ 4000 ∧ (0 ≤ h.length → (b.length : Int) ≤ h.length) ∧ (r.head? = some .fin → 0 ≤ h.length → (b.length : Int) = h.length)
  | .fin :: _ => 0 ≤ h.length → h.length = 0
  | _ => True
def Okay : List Ev → Prop
  | [] => True
  | .head h :: r => HeadOk h ∧ Follow h r ∧ Okay r
  | _ :: r => Okay r
theorem sizes_all (f : List UInt8) : ∀ (l : List (List UInt8)) (n k : Int), sizes f n l = .inr k → (∀ v ∈ l, (Ch.number 10 9 v).2 = true ∧ v = f) ∧ (l = [] ∧ k = n ∨ l ≠ [] ∧ k = (Ch.number 10 9 f).1)
  | [], n, k, e => by injection e with e; exact ⟨fun v hv => (by cases hv), Or.inl ⟨rfl, e.symm⟩⟩
  | v :: t, n, k, e => by
    rw [sizes] at e
    split at e
    · cases e
    · rename_i h1
      split at e
      · cases e
      · rename_i h2
        have h2 : v = f := Decidable.not_not.1 h2
        have h1 : (Ch.number 10 9 v).2 = true := by cases hh : (Ch.number 10 9 v).2 with | true => rfl | false => exact absurd hh h1
        obtain ⟨a, b⟩ := sizes_all f t _ k e
        refine ⟨fun x hx => ?_, Or.inr ⟨by simp, ?_⟩⟩
        · rcases List.mem_cons.1 hx with rfl | hx
          · exact ⟨h1, h2⟩
          · exact a x hx
        · rcases b with ⟨_, b⟩ | ⟨_, b⟩
          · rw [b, h2]
          · exact b
theorem len_ok {h : Hd} {k : Int} (e : len h = .inr k) : HeadOk { h with length := k } := by
  have hr := len_range e
  unfold len at e
  split at e
  · cases e
  · split at e
    · rename_i hc
      split at e
      · cases e
      · rename_i hs
        split at e
        · cases e
        · rename_i h1
          injection e with e
          have hz : vals h.fields nSize = [] := by
            rcases Decidable.em (vals h.fields nSize = []) with g | g
            · exact g
            · exact absurd (Or.inl g) hs
          have hl : (vals h.fields nCode).length = 1 := by
            rcases Decidable.em ((vals h.fields nCode).length = 1) with g | g
            · exact g
            · exact absurd (Or.inl g) h1
          refine ⟨fun _ => ⟨hz, e.symm, by show (vals h.fields nCode).length ≤ 1; omega⟩, by show k ≤ 4000; omega, fun v hv => ?_⟩
          have hv : v ∈ vals h.fields nSize := hv
          rw [hz] at hv; cases hv
    · rename_i hc
      have hc : vals h.fields nCode = [] := Decidable.not_not.1 hc
      split at e
      · cases e
      · rename_i n hn
        split at e
        · cases e
        · injection e with e
          subst e
          obtain ⟨a, b⟩ := sizes_all _ _ _ _ hn
          refine ⟨fun g => absurd hc g, by show n ≤ 4000; omega, fun v hv => ?_⟩
          have hv : v ∈ vals h.fields nSize := hv
          obtain ⟨a1, a2⟩ := a v hv
          rcases b with ⟨b, _⟩ | ⟨_, b⟩
          · rw [b] at hv; cases hv
          · exact ⟨a1, by rw [a2]; exact b.symm⟩
theorem okay_some (b : List UInt8) (q : List Ev) (h : Okay q) : Okay (some_ b ++ q) := by
  unfold some_
  split
  · exact h
  · exact h
theorem follow_fin {h : Hd} {b : List UInt8} {q : List Ev} (h1 : b.length ≤ 4000) (h2 : 0 ≤ h.length → (b.length : Int) = h.length) : Follow h (some_ b ++ .fin :: q) := by
  unfold some_
  split
  · rename_i e; subst e; exact fun g => (h2 g).symm
  · exact ⟨h1, fun g => by have := h2 g; omega, fun _ g => h2 g⟩
theorem follow_open {h : Hd} {b : List UInt8} (h1 : b.length ≤ 4000) (h2 : 0 ≤ h.length → (b.length : Int) ≤ h.length) : Follow h (some_ b) := by
  unfold some_
  split
  · exact trivial
  · exact ⟨h1, h2, fun e => by cases e⟩
theorem follow_fail {h : Hd} {b : List UInt8} {c : Nat} (h1 : b.length ≤ 4000) (h2 : 0 ≤ h.length → (b.length : Int) ≤ h.length) : Follow h (some_ b ++ [.fail c]) := by
  unfold some_
  split
  · exact trivial
  · exact ⟨h1, h2, fun e => by cases e⟩
theorem go_okay : ∀ (f : Nat) (l : List UInt8), Okay (go f l).1
  | 0, _ => trivial
  | f + 1, l => by
    rw [go]
    split
    · exact trivial
    · split
      · exact trivial
      · split
        · exact go_okay f _
        · split
          · exact trivial
          · split
            · exact trivial
            · exact trivial
            · rename_i h _ fs r _
              split
              · exact trivial
              · rename_i k hk
                have hO := len_ok hk
                have hr := len_range hk
                split
                · rename_i h0
                  split
                  · rename_i hle
                    have ht : (r.take k.toNat).length = k.toNat := by rw [List.length_take]; omega
                    exact ⟨hO, follow_fin (by omega) (fun _ => by show ((r.take k.toNat).length : Int) = k; omega), okay_some _ _ (go_okay f _)⟩
                  · refine ⟨hO, follow_open (by omega) (fun _ => by show (r.length : Int) ≤ k; omega), ?_⟩
                    have := okay_some r [] trivial
                    rwa [List.append_nil] at this
                · rename_i h0
                  have hb := Ck.of_body r
                  simp only
                  split
                  · exact ⟨hO, follow_fail hb (fun g => absurd g h0), okay_some _ _ trivial⟩
                  · split
                    · refine ⟨hO, follow_open hb (fun g => absurd g h0), ?_⟩
                      have := okay_some (Ck.of r).body [] trivial
                      rwa [List.append_nil] at this
                    · exact ⟨hO, follow_fin hb (fun g => absurd g h0), okay_some _ _ (go_okay f _)⟩
theorem of_okay (l : List UInt8) : Okay (of l).1 := go_okay _ l
theorem okay_at : ∀ (es : List Ev), Okay es → ∀ (i : Nat) (h : Hd), es[i]? = some (.head h) → HeadOk h ∧ Follow h (es.drop (i + 1))
  | [], _, i, h, e => by simp at e
  | x :: r, k, 0, h, e => by
    simp at e; subst e
    exact ⟨k.1, k.2.1⟩
  | x :: r, k, i + 1, h, e => by
    have e' : r[i]? = some (.head h) := by simpa using e
    have k' : Okay r := by
      cases x with
      | head _ => exact k.2.2
      | body _ => exact k
      | fin => exact k
      | fail _ => exact k
    have := okay_at r k' i h e'
    rwa [List.drop_succ_cons]
end Rq
end Go.Proofs.YtbcmlolaihnalacGreatDoor

/- The document's own answer, walked: Small. -/
namespace Go.Proofs.YtbcmlolaihnalacGreatDoor
open Go.RowKit

set_option maxHeartbeats 400000 in
theorem small_any (s : ByteArray) (w : World) (hs : s.size ≤ 2000) :
    Calls Tryz.prog 33 #[.string s] w fun e w' => e = .returned (.string ⟨(Ch.lower s.data.toList).toArray⟩) ∧ ∃ n, w' = w.drewN n := by
  go_enter Tryz.func33, Tryz.ntmps33
  go_wp2
  go_loopw [3, 4] (fun o i wr => ∃ k n : Nat, ∃ x : ByteArray, k ≤ s.size ∧ i = .int .i64 k ∧ o = .string x ∧ x.data.toList = Ch.lower (s.data.toList.take k) ∧ wr = w.drewN n) (fun _ i _ => s.size - (intOf i).toNat)
  case atStart => exact ⟨0, 0, ⟨#[]⟩, Nat.zero_le _, rfl, rfl, rfl, rfl⟩
  case round =>
    obtain ⟨k, n, x, hk, rfl, rfl, hx, rfl⟩ := hrel
    have hxs : x.size ≤ 2000 := by
      have := Ch.size_of_list hx
      rw [Ch.lower_length] at this
      have h2 : (s.data.toList.take k).length ≤ k := List.length_take_le _ _
      omega
    have HX : Hid (x.data.toList = Ch.lower (s.data.toList.take k)) := hx
    clear hx
    by_cases hlt : k < s.size
    · go_wp2
      go_loopw [5, 6] (fun c i wr => ∃ j n : Nat, ∃ y : ByteArray, j ≤ 26 ∧ i = .int .i64 j ∧ c = .string y ∧ y.data.toList = [Ch.lowTo s[k] j] ∧ wr = w.drewN n) (fun _ i _ => 26 - (intOf i).toNat)
      case atStart => exact ⟨0, n, _, Nat.zero_le _, rfl, rfl, by rw [Ch.one_at s k hlt, Ch.lowTo_zero], rfl⟩
      case round =>
        obtain ⟨j, n, y, hj, rfl, rfl, hy, rfl⟩ := hrel
        have hys : y.size ≤ 1 := by have := Ch.size_of_list hy; simp at this; omega
        have HY : Hid (y.data.toList = [Ch.lowTo s[k] j]) := hy
        clear hy
        by_cases hlj : j < 26
        · go_wp2
          go_quiet (fail)
          go_wp2
          · have he : (((((⟨#[65, 66, 67, 68, 69, 70, 71, 72, 73, 74, 75, 76, 77, 78, 79, 80, 81, 82, 83, 84, 85, 86, 87, 88, 89, 90]⟩ : ByteArray)[j]'hlj).toNat : Nat) : Int) == (s[k].toNat : Int)) = true := by assumption
            go_roundw
            case rel => exact ⟨j + 1, n + nq, _, by omega, by go_num, rfl, Ch.lowTo_hit _ _ hlj he, by simp [World.drewN]⟩
            case measure => simp [intOf]; omega
          · have he : (((((⟨#[65, 66, 67, 68, 69, 70, 71, 72, 73, 74, 75, 76, 77, 78, 79, 80, 81, 82, 83, 84, 85, 86, 87, 88, 89, 90]⟩ : ByteArray)[j]'hlj).toNat : Nat) : Int) == (s[k].toNat : Int)) = false := by assumption
            go_roundw
            case rel => exact ⟨j + 1, n + nq, y, by omega, by go_num, rfl, by rw [HY.out, Ch.lowTo_miss _ _ hlj he], by simp [World.drewN]⟩
            case measure => simp [intOf]; omega
        · obtain rfl : j = 26 := by omega
          go_wp2
          go_roundw
          case rel => exact ⟨k + 1, n, x ++ y, by omega, by go_num, rfl, by rw [Ch.data_append, HX.out, HY.out, Ch.take_snoc s k hlt, Ch.lower_snoc]; rfl, rfl⟩
          case measure => simp [intOf]; omega
    · go_wp2
      go_ret
      exact ⟨ret_str (Ch.str_eq (by rw [HX.out, Ch.take_all s k (by omega)])), n, rfl⟩
end Go.Proofs.YtbcmlolaihnalacGreatDoor

/- The document's own answer, walked: ValuesOf. -/
namespace Go.Proofs.YtbcmlolaihnalacGreatDoor
open Go.RowKit

set_option maxHeartbeats 1600000 in
theorem valuesOf_any (l : List (ByteArray × ByteArray)) (name : ByteArray) (ao : Option Addr) (cap n : Nat) (w : World) (hl : IsV w ao cap n (pairV l)) (hn : l.length = n) (hN : n ≤ 1000000) (hs : ∀ p ∈ l, p.1.size ≤ 2000) (hnm : name.size ≤ 2000) :
    Calls Tryz.prog 17 #[.slice ao n cap, .string name] w fun e w' => ∃ ao' cap', e = .returned (.slice ao' (Fd.vals name l).length cap') ∧ OwnV w' w.heap.size 9 1 ao' cap' (Fd.vals name l).length (strV (Fd.vals name l)) ∧ Below w.heap.size w w' := by
  subst hn
  obtain ⟨i0, hi0, hz0, hz1, hz2⟩ := info_parts info_str
  have Hi := Hid.mk' hi0; have Hz0 := Hid.mk' hz0; have Hz1 := Hid.mk' hz1; have Hz2 := Hid.mk' hz2
  have H := Hid.mk' hl
  have Hs := Hid.mk' hs
  have HSn := Hid.mk' (fun W => small_any name W hnm)
  clear hl hs hi0 hz0 hz1 hz2
  go_enter Tryz.func17, Tryz.ntmps17
  go_wp2
  go_loopw [5, 6] (fun v t wr => ∃ (k : Nat) (ao' : Option Addr) (cap' : Nat), k ≤ l.length ∧ t = .int .i64 k ∧ v = .slice ao' (Fd.vals name (l.take k)).length cap' ∧ OwnV wr w.heap.size 9 1 ao' cap' (Fd.vals name (l.take k)).length (strV (Fd.vals name (l.take k))) ∧ Below w.heap.size w wr) (fun _ t _ => l.length - (intOf t).toNat)
  case atStart => exact ⟨0, none, 0, Nat.zero_le _, rfl, rfl, OwnV.nil _ _ _ _, Below.refl _ _⟩
  case round =>
    obtain ⟨k, ao', cap', hk, rfl, rfl, hO, hB⟩ := hrel
    have HO := Hid.mk' hO; have HB := Hid.mk' hB
    clear hO hB
    have hvl := Fd.vals_length name (l.take k)
    have hvk : (l.take k).length ≤ k := List.length_take_le _ _
    by_cases hlt : k < l.length
    · have hpl : 0 < (pairV l).length := by rw [pairV_length]; omega
      obtain ⟨bb, oo, rfl, hcs⟩ := H.out.lit hpl
      have HC : Hid (∀ W, Below w.heap.size w W → W.cell? ⟨bb, oo + k * 2, none⟩ = some (.string l[k].1) ∧ W.cell? ⟨bb, oo + k * 2 + 1, none⟩ = some (.string l[k].2)) := fun W hW => by
        have h1 := hcs _ _ (pairV_at l k hlt).1
        have h2 := hcs _ _ (pairV_at l k hlt).2
        rw [← Nat.add_assoc] at h2
        exact ⟨(hW.cell (World.block_lt_of_cell? w _ h1)).trans h1, (hW.cell (World.block_lt_of_cell? w _ h2)).trans h2⟩
      clear hcs
      have HT : Hid (l.take (k + 1) = l.take k ++ [l[k]]) := List.take_succ_eq_append_getElem hlt
      have hp1 := Hs.out l[k] (List.getElem_mem hlt)
      have HSp := Hid.mk' (fun W => small_any l[k].1 W hp1)
      have hc0 := (HC.out wr HB.out).1
      have hlt' : (k : Int) < l.length := by omega
      have HV := Hid.mk' (Fd.vals_snoc name (l.take k) l[k])
      rw [← HT.out] at HV
      generalize l[k] = p at *
      have HTx : Hid (((⟨(Ch.lower p.1.data.toList).toArray⟩ : ByteArray).toList == (⟨(Ch.lower name.data.toList).toArray⟩ : ByteArray).toList) = decide (Ch.lower p.1.data.toList = Ch.lower name.data.toList)) := by
        unfold Hid; rw [Lib.toList_data, Lib.toList_data, Bool.eq_iff_iff]; simp
      generalize (⟨(Ch.lower p.1.data.toList).toArray⟩ : ByteArray) = sp at HSp HTx
      generalize (⟨(Ch.lower name.data.toList).toArray⟩ : ByteArray) = sn at HSn HTx
      generalize Fd.vals name (l.take k) = vs at HO HV hvl
      by_cases heq : Ch.lower p.1.data.toList = Ch.lower name.data.toList
      · have hx := HTx.out
        rw [decide_eq_true heq] at hx
        have HV2 : Hid (Fd.vals name (l.take (k + 1)) = vs ++ [p.2]) := by have := HV.out; rw [if_pos heq] at this; exact this
        clear HV HTx heq
        go_wp2_with fail
        refine (HSp.out _).mono ?_
        rintro e w1 ⟨rfl, n1, hw⟩
        subst hw
        go_wp2_with fail
        refine (HSn.out _).mono ?_
        rintro e w2 ⟨rfl, n2, hw⟩
        have HB2 : Hid (Below w.heap.size w w2) := by rw [hw]; exact HB.out.trans ⟨rfl, rfl, rfl, Nat.le_refl _, fun _ _ => rfl⟩
        have HO2 : Hid (OwnV w2 w.heap.size 9 1 ao' cap' vs.length (strV vs)) := by rw [hw]; exact HO.out
        clear hw hc0
        have hc1 := (HC.out w2 HB2.out).2
        go_wp2_with (at_builtin; refine wpList_append_v rfl (.tmp 22) (.tmp 28) 49 rfl w.heap.size 9 i0 (.string ⟨#[]⟩) 1 16 Tryz.underlying49 Hi.out Hz0.out Hz1.out Hz2.out rfl (by decide) rfl (HO2.out.alloc _) rfl (IsV.made _ _ 1 _ _) rfl (fun u hu => by simp at hu; subst hu; rfl) (by omega) (by omega) (by have := HB2.out.size; simp; omega) ?_; intro ao3 cap3 w3 hO3 hG3 _)
        go_roundw
        case rel =>
          have e1 : Fd.vals name (l.take (k + 1)) = vs ++ [p.2] := HV2.out
          refine ⟨k + 1, ao3, cap3, by omega, by go_num, by rw [e1, List.length_append]; rfl, ?_, ?_⟩
          · rw [e1, List.length_append, strV_append]; exact hO3
          · exact (HB2.out.alloc HB2.out.size _).grown hG3 (by have := HB2.out.size; simp; omega) (fun q e => by
              cases ao' with
              | none => simp [blockOf] at e
              | some y => simp only [blockOf, Option.some.injEq] at e; have := (HO2.out.block y rfl).1; omega)
        case measure => simp [intOf]; omega
      · have hx := HTx.out
        rw [decide_eq_false heq] at hx
        have HV2 : Hid (Fd.vals name (l.take (k + 1)) = vs) := by have := HV.out; rw [if_neg heq] at this; exact this
        clear HV HTx heq
        go_wp2_with fail
        refine (HSp.out _).mono ?_
        rintro e w1 ⟨rfl, n1, hw⟩
        subst hw
        go_wp2_with fail
        refine (HSn.out _).mono ?_
        rintro e w2 ⟨rfl, n2, hw⟩
        have HB2 : Hid (Below w.heap.size w w2) := by rw [hw]; exact HB.out.trans ⟨rfl, rfl, rfl, Nat.le_refl _, fun _ _ => rfl⟩
        have HO2 : Hid (OwnV w2 w.heap.size 9 1 ao' cap' vs.length (strV vs)) := by rw [hw]; exact HO.out
        clear hw hc0
        go_wp2
        go_roundw
        case rel => exact ⟨k + 1, ao', cap', by omega, by go_num, by rw [HV2.out], by rw [HV2.out]; exact HO2.out, HB2.out⟩
        case measure => simp [intOf]; omega
    · obtain rfl : k = l.length := by omega
      go_wp2
      go_ret
      have e : l.take l.length = l := List.take_length
      have h1 := HO.out
      rw [e] at h1
      exact ⟨ao', cap', by rw [e]; rfl, h1, HB.out⟩
end Go.Proofs.YtbcmlolaihnalacGreatDoor

/- The document's own answer, walked: HexOf. -/
namespace Go.Proofs.YtbcmlolaihnalacGreatDoor
open Go.RowKit

set_option maxHeartbeats 400000 in
theorem hexOf_any (b : UInt8) (w : World) :
    Calls Tryz.prog 35 #[.int .u8 b.toNat] w fun e w' => e = .returned (.int .i64 (Ch.hex b.toNat)) ∧ Below w.heap.size w w' := by
  have hb := b.toNat_lt
  have hconv : (convert 22 9 (.slice (some ⟨w.heap.size, 0, none⟩) 1 1)).run Tryz.prog (w.alloc (.cells #[.int .u8 b.toNat] 5)) = .ok (.string ⟨#[b]⟩) (w.alloc (.cells #[.int .u8 b.toNat] 5)) :=
    run_convert_bytes_back (P := Tryz.prog) (w.alloc (.cells #[.int .u8 b.toNat] 5)) 22 9 5 ⟨w.heap.size, 0, none⟩ 1 [b] Tryz.underlying22 Tryz.underlying5 Tryz.underlying9 (fun j hj => by
      obtain rfl : j = 0 := by simp at hj; exact hj
      rw [show ((⟨w.heap.size, 0, none⟩ : Addr).add 0) = ⟨w.heap.size, 0, none⟩ from rfl, World.cell?_alloc_at _ _ _ _ rfl]
      rfl)
  have hsm := small_any ⟨#[b]⟩ (w.alloc (.cells #[.int .u8 b.toNat] 5)) (by show 1 ≤ 2000; omega)
  rw [show (⟨(Ch.lower (⟨#[b]⟩ : ByteArray).data.toList).toArray⟩ : ByteArray) = ⟨#[Ch.lowB b]⟩ from rfl] at hsm
  have hB : Below w.heap.size w (w.alloc (.cells #[.int .u8 b.toNat] 5)) := (Below.refl _ _).alloc (Nat.le_refl _) _
  go_enter Tryz.func35, Tryz.ntmps35
  go_wp2_with fail
  refine hsm.mono ?_
  rintro e w1 ⟨rfl, nd, hw1⟩
  have hB1 : Below w.heap.size w w1 := by rw [hw1]; exact ⟨hB.os, hB.tape, hB.output, hB.size, hB.block⟩
  clear hw1 hB hsm hconv
  go_wp2
  go_loop [5] (fun i => ∃ j : Nat, j ≤ 16 ∧ i = .int .i64 j ∧ ∀ m, m < j → Ch.lowB b ≠ Ch.hexs.getD m 0) (fun i => 16 - (intOf i).toNat)
  case atStart => exact ⟨0, Nat.zero_le _, rfl, fun m hm => absurd hm (Nat.not_lt_zero _)⟩
  case round =>
    obtain ⟨j, hj, rfl, hno⟩ := hrel
    have HN : Hid (∀ m, m < j → Ch.lowB b ≠ Ch.hexs.getD m 0) := hno
    clear hno
    by_cases hlt : j < 16
    · have hpe := Ch.piece_eq b j hlt
      by_cases he : Ch.lowB b = Ch.hexs.getD j 0
      · rw [decide_eq_true he] at hpe
        have HE : Hid (Ch.hex b.toNat = j) := Ch.hexs_hit b j hlt he
        clear he
        go_wp2
        go_ret
        exact ⟨ret_int HE.out.symm, hB1⟩
      · rw [decide_eq_false he] at hpe
        have HE : Hid (Ch.lowB b ≠ Ch.hexs.getD j 0) := he
        clear he
        go_wp2
        go_round
        case rel => exact ⟨j + 1, by omega, by go_num, fun m hm => by
          rcases Nat.lt_or_ge m j with h | h
          · exact HN.out m h
          · obtain rfl : m = j := by omega
            exact HE.out⟩
        case measure => simp [intOf]; omega
    · have HE : Hid (Ch.hex b.toNat = -1) := Ch.hexs_miss b (fun m hm => HN.out m (by omega))
      go_wp2
      go_ret
      exact ⟨ret_int HE.out.symm, hB1⟩
end Go.Proofs.YtbcmlolaihnalacGreatDoor
