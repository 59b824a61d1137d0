/- Small texts, one behind the other: FdVals, RfVals, RfLine, RfFind. -/
import Derived.Test.YtjhbiipbmlpgoaaDoorPk1
import Derived.Test.YtjhbiipbmlpgoaaDoorPk4
import Derived.Test.YtjhbiipbmlpgoaaDoorPk9
import Derived.Test.YtjhbiipbmlpgoaaDoorPk12
import Derived.Test.YtjhbiipbmlpgoaaDoorPlainS
import Derived.Test.YtjhbiipbmlpgoaaDoorBase
import Derived.Test.YtjhbiipbmlpgoaaDoorProg
/- Values of a name's fields, and a field that is told, as plain things and as values. -/
namespace Go.Proofs.YtjhbiipbmlpgoaaDoor
open Go.RowKit

theorem info_str : (Tryd.prog.info? 9).map (fun i => (i.zero, i.size, i.bytes)) = some (some (.string ⟨#[]⟩), 1, 16) := by kernel_rfl

/-- the values of a name's fields, in their order -/
def Fd.vals (name : ByteArray) (l : List (ByteArray × ByteArray)) : List ByteArray := (l.filter fun p => decide (Ch.lower p.1.data.toList = Ch.lower name.data.toList)).map (·.2)
theorem Fd.vals_snoc (name : ByteArray) (l : List (ByteArray × ByteArray)) (p : ByteArray × ByteArray) :
    Fd.vals name (l ++ [p]) = if Ch.lower p.1.data.toList = Ch.lower name.data.toList then Fd.vals name l ++ [p.2] else Fd.vals name l := by
  unfold Fd.vals
  rw [List.filter_append, List.map_append]
  by_cases h : Ch.lower p.1.data.toList = Ch.lower name.data.toList
  · rw [if_pos h]; simp [h]
  · rw [if_neg h]; simp [h]
theorem Fd.vals_length (name : ByteArray) (l : List (ByteArray × ByteArray)) : (Fd.vals name l).length ≤ l.length := by
  unfold Fd.vals; rw [List.length_map]; exact List.length_filter_le _ _

/-- the one value of a name's fields, or a code -/
def Fd.one (vs : List ByteArray) : List UInt8 × Nat :=
  match vs with
  | [] => ([], 10)
  | [v] => (v.data.toList, 0)
  | _ => ([], 9)

/-- what is told, as a value -/
def Fd.val (t : Fd.Told) : Value := .tuple #[.agg #[.string ⟨t.name.toArray⟩, .string ⟨t.value.toArray⟩], .int .i64 (t.code : Int)]
end Go.Proofs.YtjhbiipbmlpgoaaDoor

/- The document's own answer, walked: ValuesOf. -/
namespace Go.Proofs.YtjhbiipbmlpgoaaDoor
open Go.RowKit

set_option maxHeartbeats 1600000 in
theorem valuesOf_any (l : List (ByteArray × ByteArray)) (name : ByteArray) (ao : Option Addr) (cap n : Nat) (w : World) (hl : IsV w ao cap n (pairV l)) (hn : l.length = n) (hN : n ≤ 1000000) (hs : ∀ p ∈ l, p.1.size ≤ 2000) (hnm : name.size ≤ 2000) :
    Calls Tryd.prog 20 #[.slice ao n cap, .string name] w fun e w' => ∃ ao' cap', e = .returned (.slice ao' (Fd.vals name l).length cap') ∧ OwnV w' w.heap.size 9 1 ao' cap' (Fd.vals name l).length (strV (Fd.vals name l)) ∧ Below w.heap.size w w' := by
  subst hn
  obtain ⟨i0, hi0, hz0, hz1, hz2⟩ := info_parts info_str
  have Hi := Hid.mk' hi0; have Hz0 := Hid.mk' hz0; have Hz1 := Hid.mk' hz1; have Hz2 := Hid.mk' hz2
  have H := Hid.mk' hl
  have Hs := Hid.mk' hs
  have HSn := Hid.mk' (fun W => small_any name W hnm)
  clear hl hs hi0 hz0 hz1 hz2
  go_enter Tryd.func20, Tryd.ntmps20
  go_wp2
  go_loopw [5, 6] (fun v t wr => ∃ (k : Nat) (ao' : Option Addr) (cap' : Nat), k ≤ l.length ∧ t = .int .i64 k ∧ v = .slice ao' (Fd.vals name (l.take k)).length cap' ∧ OwnV wr w.heap.size 9 1 ao' cap' (Fd.vals name (l.take k)).length (strV (Fd.vals name (l.take k))) ∧ Below w.heap.size w wr) (fun _ t _ => l.length - (intOf t).toNat)
  case atStart => exact ⟨0, none, 0, Nat.zero_le _, rfl, rfl, OwnV.nil _ _ _ _, Below.refl _ _⟩
  case round =>
    obtain ⟨k, ao', cap', hk, rfl, rfl, hO, hB⟩ := hrel
    have HO := Hid.mk' hO; have HB := Hid.mk' hB
    clear hO hB
    have hvl := Fd.vals_length name (l.take k)
    have hvk : (l.take k).length ≤ k := List.length_take_le _ _
    by_cases hlt : k < l.length
    · have hpl : 0 < (pairV l).length := by rw [pairV_length]; omega
      obtain ⟨bb, oo, rfl, hcs⟩ := H.out.lit hpl
      have HC : Hid (∀ W, Below w.heap.size w W → W.cell? ⟨bb, oo + k * 2, none⟩ = some (.string l[k].1) ∧ W.cell? ⟨bb, oo + k * 2 + 1, none⟩ = some (.string l[k].2)) := fun W hW => by
        have h1 := hcs _ _ (pairV_at l k hlt).1
        have h2 := hcs _ _ (pairV_at l k hlt).2
        rw [← Nat.add_assoc] at h2
        exact ⟨(hW.cell (World.block_lt_of_cell? w _ h1)).trans h1, (hW.cell (World.block_lt_of_cell? w _ h2)).trans h2⟩
      clear hcs
      have HT : Hid (l.take (k + 1) = l.take k ++ [l[k]]) := List.take_succ_eq_append_getElem hlt
      have hp1 := Hs.out l[k] (List.getElem_mem hlt)
      have HSp := Hid.mk' (fun W => small_any l[k].1 W hp1)
      have hc0 := (HC.out wr HB.out).1
      have hlt' : (k : Int) < l.length := by omega
      have HV := Hid.mk' (Fd.vals_snoc name (l.take k) l[k])
      rw [← HT.out] at HV
      generalize l[k] = p at *
      have HTx : Hid (((⟨(Ch.lower p.1.data.toList).toArray⟩ : ByteArray).toList == (⟨(Ch.lower name.data.toList).toArray⟩ : ByteArray).toList) = decide (Ch.lower p.1.data.toList = Ch.lower name.data.toList)) := by
        unfold Hid; rw [Lib.toList_data, Lib.toList_data, Bool.eq_iff_iff]; simp
      generalize (⟨(Ch.lower p.1.data.toList).toArray⟩ : ByteArray) = sp at HSp HTx
      generalize (⟨(Ch.lower name.data.toList).toArray⟩ : ByteArray) = sn at HSn HTx
      generalize Fd.vals name (l.take k) = vs at HO HV hvl
      by_cases heq : Ch.lower p.1.data.toList = Ch.lower name.data.toList
      · have hx := HTx.out
        rw [decide_eq_true heq] at hx
        have HV2 : Hid (Fd.vals name (l.take (k + 1)) = vs ++ [p.2]) := by have := HV.out; rw [if_pos heq] at this; exact this
        clear HV HTx heq
        go_wp2_with fail
        refine (HSp.out _).mono ?_
        rintro e w1 ⟨rfl, n1, hw⟩
        subst hw
        go_wp2_with fail
        refine (HSn.out _).mono ?_
        rintro e w2 ⟨rfl, n2, hw⟩
        have HB2 : Hid (Below w.heap.size w w2) := by rw [hw]; exact HB.out.trans ⟨rfl, rfl, rfl, Nat.le_refl _, fun _ _ => rfl⟩
        have HO2 : Hid (OwnV w2 w.heap.size 9 1 ao' cap' vs.length (strV vs)) := by rw [hw]; exact HO.out
        clear hw hc0
        have hc1 := (HC.out w2 HB2.out).2
        go_wp2_with (at_builtin; refine wpList_append_v rfl (.tmp 22) (.tmp 28) 45 rfl w.heap.size 9 i0 (.string ⟨#[]⟩) 1 16 Tryd.underlying45 Hi.out Hz0.out Hz1.out Hz2.out rfl (by decide) rfl (HO2.out.alloc _) rfl (IsV.made _ _ 1 _ _) rfl (fun u hu => by simp at hu; subst hu; rfl) (by omega) (by omega) (by have := HB2.out.size; simp; omega) ?_; intro ao3 cap3 w3 hO3 hG3 _)
        go_roundw
        case rel =>
          have e1 : Fd.vals name (l.take (k + 1)) = vs ++ [p.2] := HV2.out
          refine ⟨k + 1, ao3, cap3, by omega, by go_num, by rw [e1, List.length_append]; rfl, ?_, ?_⟩
          · rw [e1, List.length_append, strV_append]; exact hO3
          · exact (HB2.out.alloc HB2.out.size _).grown hG3 (by have := HB2.out.size; simp; omega) (fun q e => by
              cases ao' with
              | none => simp [blockOf] at e
              | some y => simp only [blockOf, Option.some.injEq] at e; have := (HO2.out.block y rfl).1; omega)
        case measure => simp [intOf]; omega
      · have hx := HTx.out
        rw [decide_eq_false heq] at hx
        have HV2 : Hid (Fd.vals name (l.take (k + 1)) = vs) := by have := HV.out; rw [if_neg heq] at this; exact this
        clear HV HTx heq
        go_wp2_with fail
        refine (HSp.out _).mono ?_
        rintro e w1 ⟨rfl, n1, hw⟩
        subst hw
        go_wp2_with fail
        refine (HSn.out _).mono ?_
        rintro e w2 ⟨rfl, n2, hw⟩
        have HB2 : Hid (Below w.heap.size w w2) := by rw [hw]; exact HB.out.trans ⟨rfl, rfl, rfl, Nat.le_refl _, fun _ _ => rfl⟩
        have HO2 : Hid (OwnV w2 w.heap.size 9 1 ao' cap' vs.length (strV vs)) := by rw [hw]; exact HO.out
        clear hw hc0
        go_wp2
        go_roundw
        case rel => exact ⟨k + 1, ao', cap', by omega, by go_num, by rw [HV2.out], by rw [HV2.out]; exact HO2.out, HB2.out⟩
        case measure => simp [intOf]; omega
    · obtain rfl : k = l.length := by omega
      go_wp2
      go_ret
      have e : l.take l.length = l := List.take_length
      have h1 := HO.out
      rw [e] at h1
      exact ⟨ao', cap', by rw [e]; rfl, h1, HB.out⟩
end Go.Proofs.YtjhbiipbmlpgoaaDoor

/- The document's own answer, walked: LineOf. -/
namespace Go.Proofs.YtjhbiipbmlpgoaaDoor
open Go.RowKit

/-- what is told, as a value -/
def Ln.val (t : Ln.Told) : Value := .tuple #[.string ⟨t.text.toArray⟩, .int .i64 (t.size : Int), .bool t.ended, .int .i64 (t.code : Int)]
theorem ret_line {v : Value} {t u : Ln.Told} (hu : u = t) (h : v = Ln.val t) : Ending.returned v = .returned (Ln.val u) := by rw [h, hu]

set_option maxHeartbeats 1600000 in
theorem lineOf_any (l : List UInt8) (ao : Option Addr) (cap n : Nat) (w : World) (hl : IsB w ao cap l) (hn : l.length = n) (hN : n ≤ 1000000) :
    Calls Tryd.prog 12 #[.slice ao n cap] w fun e w' => e = .returned (Ln.val (Ln.of l)) ∧ w' = w := by
  subst hn
  have H := Hid.mk' hl
  have hcap := hl.1
  clear hl
  go_enter Tryd.func12, Tryd.ntmps12
  go_wp2
  go_loop [6] (fun t => ∃ i : Nat, i ≤ l.length ∧ t = .int .i64 i ∧ Ln.of l = Ln.go l i (l.drop i)) (fun t => l.length - (intOf t).toNat)
  case atStart => exact ⟨0, Nat.zero_le _, rfl, rfl⟩
  case round =>
    obtain ⟨i, hi, rfl, hg⟩ := hrel
    by_cases hlt : i < l.length
    · obtain ⟨bb, oo, rfl, hcs⟩ := H.out.lit (by omega)
      have HCs := Hid.mk' hcs
      clear hcs
      have hcell := HCs.out i hlt
      have hlt' : (i : Int) < l.length := by omega
      rw [Ln.go_at l i hlt] at hg
      have hb := l[i].toNat_lt
      by_cases h13 : l[i] = 13
      · rw [if_pos h13] at hg
        have t13 : ((l[i].toNat : Int) == 13) = true := by rw [h13]; rfl
        by_cases h2 : i + 1 < l.length
        · rw [dif_pos h2] at hg
          have te : ((i : Int) + 1 == l.length) = false := by rw [beq_eq_false_iff_ne]; omega
          have hcell2 := HCs.out (i + 1) h2
          have b1 : (i : Int) + 1 < l.length := by omega
          by_cases h10 : l[i + 1] = 10
          · rw [if_pos h10] at hg
            have t10 : ((l[i + 1].toNat : Int) != 10) = false := by rw [h10]; rfl
            have hq := (H.out.first i (by omega)).str (P := Tryd.prog) 23 9 5 Tryd.underlying23 Tryd.underlying5 Tryd.underlying9
            rw [List.length_take, Nat.min_eq_left (by omega)] at hq
            have b2 : (i : Int) ≤ cap := by omega
            have HG := Hid.mk' hg
            clear hg h13 h10
            generalize l[i] = c at *
            generalize l[i + 1] = d at *
            go_wp2
            (try simp only [Exit.inBlock, Exit.then])
            refine bodyPost_ret (results_tmp4 rfl _ _ _) rfl ?_
            exact ⟨ret_line HG.out rfl, rfl⟩
          · rw [if_neg h10] at hg
            have t10 : ((l[i + 1].toNat : Int) != 10) = true := byte_ne h10
            have HG := Hid.mk' hg
            clear hg h13 h10
            generalize l[i] = c at *
            generalize l[i + 1] = d at *
            go_wp2
            (try simp only [Exit.inBlock, Exit.then])
            refine bodyPost_ret (results_tmp4 rfl _ _ _) rfl ?_
            exact ⟨ret_line HG.out rfl, rfl⟩
        · rw [dif_neg h2] at hg
          have te : ((i : Int) + 1 == l.length) = true := by rw [beq_iff_eq]; omega
          have HG := Hid.mk' hg
          clear hg h13
          generalize l[i] = c at *
          go_wp2
          (try simp only [Exit.inBlock, Exit.then])
          refine bodyPost_ret (results_tmp4 rfl _ _ _) rfl ?_
          exact ⟨ret_line HG.out rfl, rfl⟩
      · rw [if_neg h13] at hg
        have t13 : ((l[i].toNat : Int) == 13) = false := byte_ne' h13
        by_cases h10 : l[i] = 10
        · rw [if_pos h10] at hg
          have t10 : ((l[i].toNat : Int) == 10) = true := by rw [h10]; rfl
          have HG := Hid.mk' hg
          clear hg h13 h10
          generalize l[i] = c at *
          go_wp2
          (try simp only [Exit.inBlock, Exit.then])
          refine bodyPost_ret (results_tmp4 rfl _ _ _) rfl ?_
          exact ⟨ret_line HG.out rfl, rfl⟩
        · rw [if_neg h10] at hg
          have t10 : ((l[i].toNat : Int) == 10) = false := byte_ne' h10
          have HS := Hid.mk' (isSeen_any (l[i].toNat : Int) w)
          cases hv : Ch.visible l[i].toNat
          · rw [hv] at HS
            rw [if_pos hv] at hg
            have HG := Hid.mk' hg
            clear hg h13 h10 hv
            generalize l[i] = c at *
            go_wp2_with fail
            refine HS.out.mono ?_
            rintro e w' ⟨rfl, hw⟩
            subst hw
            go_wp2
            (try simp only [Exit.inBlock, Exit.then])
            refine bodyPost_ret (results_tmp4 rfl _ _ _) rfl ?_
            exact ⟨ret_line HG.out rfl, rfl⟩
          · rw [hv] at HS
            rw [if_neg (by rw [hv]; simp)] at hg
            by_cases h200 : i = 200
            · rw [if_pos h200] at hg
              subst h200
              have HG := Hid.mk' hg
              clear hg h13 h10 hv
              generalize l[200] = c at *
              go_wp2_with fail
              refine HS.out.mono ?_
              rintro e w' ⟨rfl, hw⟩
              subst hw
              go_wp2
              (try simp only [Exit.inBlock, Exit.then])
              refine bodyPost_ret (results_tmp4 rfl _ _ _) rfl ?_
              exact ⟨ret_line HG.out rfl, rfl⟩
            · rw [if_neg h200] at hg
              have t200 : ((i : Int) == 200) = false := by rw [beq_eq_false_iff_ne]; omega
              have HG := Hid.mk' hg
              clear hg h13 h10 hv
              generalize l[i] = c at *
              go_wp2_with fail
              refine HS.out.mono ?_
              rintro e w' ⟨rfl, hw⟩
              subst hw
              go_wp2
              go_round
              case rel => exact ⟨i + 1, by omega, by go_num, HG.out⟩
              case measure => simp [intOf]; omega
    · rw [Ln.go_end l i (by omega)] at hg
      have HG := Hid.mk' hg
      clear hg
      obtain rfl : i = l.length := by omega
      go_wp2
      (try simp only [Exit.inBlock, Exit.then])
      refine bodyPost_ret (results_tmp4 rfl _ _ _) rfl ?_
      exact ⟨ret_line HG.out rfl, rfl⟩
end Go.Proofs.YtjhbiipbmlpgoaaDoor

/- The document's own answer, walked: FindFirst. -/
namespace Go.Proofs.YtjhbiipbmlpgoaaDoor
open Go.RowKit

/-- the mark stands at i -/
def StandsAt (m x : List UInt8) (i : Nat) : Prop := i + m.length ≤ x.length ∧ (x.drop i).take m.length = m

/-- r is where it stands first, or -1 -/
def FindIs (m x : List UInt8) (r : Int) : Prop := (r = -1 ∧ ∀ j, ¬ StandsAt m x j) ∨ ∃ k : Nat, r = k ∧ StandsAt m x k ∧ ∀ j, j < k → ¬ StandsAt m x j

theorem FindIs.free {m x : List UInt8} {r : Int} (h : FindIs m x r) (hf : Sk.Free m x) : r = -1 := by
  rcases h with ⟨h, _⟩ | ⟨k, _, ⟨h1, h2⟩, _⟩
  · exact h
  · refine absurd ?_ hf
    refine ⟨x.take k, x.drop (k + m.length), ?_⟩
    rw [← h2]
    have : (x.drop k).drop m.length = x.drop (k + m.length) := by rw [List.drop_drop]
    rw [List.length_take, List.length_drop, Nat.min_eq_left (by omega), ← this, List.append_assoc, List.take_append_drop, List.take_append_drop]

theorem find_none (w : World) (ao : Option Addr) (cap : Nat) (x : List UInt8) (s : ByteArray) (hx : IsB w ao cap x) (hs : s.size = 0) :
    Calls Tryd.prog 23 #[.slice ao x.length cap, .string s] w fun e w' => e = .returned (.int .i64 0) ∧ w' = w := by
  have hs' : (s.size : Int) = 0 := by omega
  have hcap := hx.1
  have he : s.toList = [] := by
    rw [Lib.toList_data]
    exact List.eq_nil_of_length_eq_zero (by rw [Array.length_toList]; exact hs)
  have hq := (hx.first 0 (Nat.zero_le _)).str (P := Tryd.prog) 23 9 5 Tryd.underlying23 Tryd.underlying5 Tryd.underlying9
  simp only [List.take_zero, List.length_nil] at hq
  clear hx
  go_enter Tryd.func23, Tryd.ntmps23
  go_wp2
  go_loop [5] (fun t => t = .int .i64 0) (fun _ => 0)
  case atStart => rfl
  case round =>
    subst hrel
    go_wp2
    go_ret
    exact ⟨rfl, rfl⟩

set_option maxHeartbeats 800000 in
theorem find_some (w : World) (ao : Option Addr) (cap : Nat) (x : List UInt8) (s : ByteArray) (hx : IsB w ao cap x) (hL : s.size ≤ 1000000) (hs : 0 < s.size) (hX : x.length ≤ 1000000) :
    Calls Tryd.prog 23 #[.slice ao x.length cap, .string s] w fun e w' => ∃ r, e = .returned (.int .i64 r) ∧ FindIs s.data.toList x r ∧ w' = w := by
  have hcap := hx.1
  have H := Hid.mk' hx
  have HL : Hid (s.data.toList.length = s.size) := by unfold Hid; rw [Array.length_toList]; rfl
  clear hx
  go_enter Tryd.func23, Tryd.ntmps23
  go_wp2
  go_loop [5] (fun t => ∃ k : Nat, k ≤ x.length ∧ t = .int .i64 k ∧ ∀ j, j < k → ¬ StandsAt s.data.toList x j) (fun t => x.length + 1 - (intOf t).toNat)
  case atStart => exact ⟨0, Nat.zero_le _, rfl, fun j h => by omega⟩
  case round =>
    obtain ⟨k, hk, rfl, hno⟩ := hrel
    have HN := Hid.mk' hno
    clear hno
    by_cases hlt : k + s.size ≤ x.length
    · obtain ⟨a, rfl⟩ := H.out.some (by omega)
      have e1 : (k : Int) + s.size ≤ x.length := by omega
      have e2 : (k : Int) + s.size ≤ cap := by omega
      have e3 : ((k : Int) + s.size).toNat = k + s.size := by omega
      have e4 : ¬ cap = k := by omega
      have e5 : k + s.size - k = s.size := by omega
      have hq : (convert 23 9 (.slice (some (a.add k)) s.size (cap - k))).run Tryd.prog w = .ok (.string ⟨((x.drop k).take s.size).toArray⟩) w := by
        have h := H.out.cut (ao' := some (a.add k)) k (k + s.size) (by omega) hlt (fun _ => rfl)
        rw [e5] at h
        have h' := h.str (P := Tryd.prog) 23 9 5 Tryd.underlying23 Tryd.underlying5 Tryd.underlying9
        rw [List.length_take, List.length_drop, Nat.min_eq_left (by omega)] at h'
        exact h'
      by_cases hy : (x.drop k).take s.size = s.data.toList
      · have HY : Hid (StandsAt s.data.toList x k) := ⟨by rw [HL.out]; exact hlt, by rw [HL.out]; exact hy⟩
        have hy' : ((x.drop k).take s.size == s.toList) = true := by rw [Lib.toList_data, hy]; exact beq_self_eq_true _
        clear hy
        go_wp2
        go_ret
        exact ⟨k, rfl, Or.inr ⟨k, rfl, HY.out, HN.out⟩, rfl⟩
      · have HY : Hid (¬ StandsAt s.data.toList x k) := fun h => hy (by have := h.2; rwa [HL.out] at this)
        have hy' : ((x.drop k).take s.size == s.toList) = false := by rw [Lib.toList_data, beq_eq_false_iff_ne]; exact hy
        clear hy
        go_wp2
        go_round
        case rel =>
          refine ⟨k + 1, by omega, by go_num, fun j hj => ?_⟩
          by_cases e : j = k
          · subst e; exact HY.out
          · exact HN.out j (by omega)
        case measure => simp [intOf]; omega
    · have ht : decide ((k : Int) + s.size ≤ x.length) = false := by rw [decide_eq_false_iff_not]; omega
      go_wp2
      go_ret
      refine ⟨-1, rfl, Or.inl ⟨rfl, fun j hj => ?_⟩, rfl⟩
      by_cases e : j < k
      · exact HN.out j e hj
      · have := hj.1
        rw [HL.out] at this; omega

theorem find_any (w : World) (ao : Option Addr) (cap n : Nat) (x : List UInt8) (s : ByteArray) (hx : IsB w ao cap x) (hn : x.length = n) (hL : s.size ≤ 1000000) (hX : n ≤ 1000000) :
    Calls Tryd.prog 23 #[.slice ao n cap, .string s] w fun e w' => ∃ r, e = .returned (.int .i64 r) ∧ FindIs s.data.toList x r ∧ w' = w := by
  subst hn
  by_cases h : s.size = 0
  · refine (find_none w ao cap x s hx h).mono ?_
    rintro e w' ⟨rfl, hw⟩
    have e : s.data.toList = [] := by
      exact List.eq_nil_of_length_eq_zero (by rw [Array.length_toList]; exact h)
    exact ⟨0, rfl, Or.inr ⟨0, rfl, ⟨by rw [e]; simp, by rw [e]; rfl⟩, fun j hj => by omega⟩, hw⟩
  · exact find_some w ao cap x s hx hL (by omega) hX

/-- a mark of one byte -/
theorem find_one {c : UInt8} {l : List UInt8} {r : Int} (h : FindIs [c] l r) : (r = -1 ∧ Fd.at_ c l = l.length) ∨ (r = (Fd.at_ c l : Int) ∧ Fd.at_ c l < l.length) := by
  have key : ∀ j (hj : j < l.length), StandsAt [c] l j ↔ l[j] = c := fun j hj => by
    unfold StandsAt
    rw [List.drop_eq_getElem_cons hj]
    constructor
    · rintro ⟨_, h⟩
      exact (List.cons.inj (show l[j] :: List.take 0 _ = c :: [] from h)).1
    · intro e
      exact ⟨by simp; omega, by rw [e]; rfl⟩
  rcases h with ⟨h1, h2⟩ | ⟨k, h1, h2, h3⟩
  · exact Or.inl ⟨h1, Fd.at_none (fun j hj e => h2 j ((key j hj).2 e))⟩
  · have hk : k < l.length := by have := h2.1; simp at this; omega
    have e := Fd.at_is hk ((key k hk).1 h2) (fun j hj e => h3 j hj ((key j (by omega)).2 e))
    exact Or.inr ⟨by rw [e]; exact h1, by omega⟩

end Go.Proofs.YtjhbiipbmlpgoaaDoor
