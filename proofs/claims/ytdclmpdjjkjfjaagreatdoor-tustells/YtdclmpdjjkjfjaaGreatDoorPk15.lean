/- Small texts, one behind the other: PlainTy, FdVals, RfVals, RfOneOf. -/
import Derived.Test.YtdclmpdjjkjfjaaGreatDoorPk6
import Derived.Test.YtdclmpdjjkjfjaaGreatDoorPk13
import Derived.Test.YtdclmpdjjkjfjaaGreatDoorPk1
import Derived.Test.YtdclmpdjjkjfjaaGreatDoorPk3
import Derived.Test.YtdclmpdjjkjfjaaGreatDoorPk12
import Derived.Test.YtdclmpdjjkjfjaaGreatDoorPk14
/- Plain: what a law gathers of a reply, case by case; how long it can be. -/
namespace Go.Proofs.YtdclmpdjjkjfjaaGreatDoor.Tu
open Sr

section
variable {N : Nat} {cm : List (List UInt8)} {t : ByteArray} {body : List UInt8} {rs : Nat} {rl : List (ByteArray × ByteArray)}
theorem next_made (h : rs = 201) : next N cm t body (rs, rl) = cm := by unfold next; rw [if_pos h]
theorem next_far (h1 : rs ≠ 201) (h : (numL t).2 = false ∨ (N : Int) ≤ (numL t).1) : next N cm t body (rs, rl) = cm := by unfold next; rw [if_neg h1, if_pos h]
theorem next_not (h1 : rs ≠ 201) (h : ¬ ((numL t).2 = false ∨ (N : Int) ≤ (numL t).1)) (h2 : ¬ (rs = 204 ∧ (one (vals nUO rl)).2 = 0)) : next N cm t body (rs, rl) = cm := by unfold next; rw [if_neg h1, if_neg h, if_neg h2]
theorem next_set (h1 : rs ≠ 201) (h : ¬ ((numL t).2 = false ∨ (N : Int) ≤ (numL t).1)) (h2 : rs = 204 ∧ (one (vals nUO rl)).2 = 0) : next N cm t body (rs, rl) = cm.set (numL t).1.toNat ((cm[(numL t).1.toNat]?.getD []) ++ body) := by unfold next; rw [if_neg h1, if_neg h, if_pos h2]
theorem numL_pos (h : (numL t).2 = true) : 0 ≤ (numL t).1 := by
  unfold numL at h ⊢
  split
  · rename_i hc
    rw [if_pos hc] at h
    unfold Ch.number at h ⊢
    split
    · rename_i h1; rw [if_pos h1] at h; cases h
    · rename_i h1
      rw [if_neg h1] at h
      split
      · rename_i ha
        have key : ∀ (l : List UInt8) (n : Int), 0 ≤ n → l.all (Ch.dig 10) = true → 0 ≤ l.foldl (fun n b => n * 10 + Ch.hex b.toNat) n := by
          intro l
          induction l with
          | nil => intro n h0 _; exact h0
          | cons b r ih =>
            intro n h0 hd
            rw [List.all_cons, Bool.and_eq_true] at hd
            have hb := hd.1
            unfold Ch.dig at hb
            rw [Bool.and_eq_true, decide_eq_true_eq, decide_eq_true_eq] at hb
            exact ih _ (by show 0 ≤ n * 10 + Ch.hex b.toNat; omega) hd.2
        exact key _ 0 (by omega) ha
      · rename_i ha; rw [if_neg ha] at h; cases h
  · rename_i hc; rw [if_neg hc] at h; cases h
/-- what came in is no longer than what was asked -/
def CmIn (l : List Aq) (k : Nat) (cm : List (List UInt8)) : Prop := ∀ c ∈ cm, c.length ≤ aqN (l.take k)
theorem CmIn.new (l : List Aq) (N : Nat) : CmIn l 0 (List.replicate N []) := fun c hc => by rw [(List.mem_replicate.1 hc).2]; exact Nat.zero_le _
theorem CmIn.step {l : List Aq} {k : Nat} (h : CmIn l k cm) (hk : k < l.length) (r : Rep) : CmIn l (k + 1) (next N cm l[k].t l[k].body r) := by
  have e := aqN_take l k hk
  unfold aqz at e
  have hsame : ∀ c ∈ cm, c.length ≤ aqN (l.take (k + 1)) := fun c hc => by have := h c hc; omega
  unfold next
  split
  · exact hsame
  · split
    · exact hsame
    · split
      · intro c hc
        rcases List.mem_or_eq_of_mem_set hc with h1 | h1
        · exact hsame c h1
        · rw [h1, List.length_append]
          cases hg : cm[(numL l[k].t).1.toNat]? with
          | none => simp; omega
          | some x =>
            have := h x (List.mem_of_getElem? hg)
            simp; omega
      · exact hsame
end
end Go.Proofs.YtdclmpdjjkjfjaaGreatDoor.Tu

/- Values of a name's fields, and a field that is told, as plain things and as values. -/
namespace Go.Proofs.YtdclmpdjjkjfjaaGreatDoor
open Go.RowKit

theorem info_str : (Tryz.prog.info? 9).map (fun i => (i.zero, i.size, i.bytes)) = some (some (.string ⟨#[]⟩), 1, 16) := by kernel_rfl

/-- the values of a name's fields, in their order -/
def Fd.vals (name : ByteArray) (l : List (ByteArray × ByteArray)) : List ByteArray := (l.filter fun p => decide (Ch.lower p.1.data.toList = Ch.lower name.data.toList)).map (·.2)
theorem Fd.vals_snoc (name : ByteArray) (l : List (ByteArray × ByteArray)) (p : ByteArray × ByteArray) :
    Fd.vals name (l ++ [p]) = if Ch.lower p.1.data.toList = Ch.lower name.data.toList then Fd.vals name l ++ [p.2] else Fd.vals name l := by
  unfold Fd.vals
  rw [List.filter_append, List.map_append]
  by_cases h : Ch.lower p.1.data.toList = Ch.lower name.data.toList
  · rw [if_pos h]; simp [h]
  · rw [if_neg h]; simp [h]
theorem Fd.vals_length (name : ByteArray) (l : List (ByteArray × ByteArray)) : (Fd.vals name l).length ≤ l.length := by
  unfold Fd.vals; rw [List.length_map]; exact List.length_filter_le _ _

/-- the one value of a name's fields, or a code -/
def Fd.one (vs : List ByteArray) : List UInt8 × Nat :=
  match vs with
  | [] => ([], 10)
  | [v] => (v.data.toList, 0)
  | _ => ([], 9)

/-- what is told, as a value -/
def Fd.val (t : Fd.Told) : Value := .tuple #[.agg #[.string ⟨t.name.toArray⟩, .string ⟨t.value.toArray⟩], .int .i64 (t.code : Int)]
end Go.Proofs.YtdclmpdjjkjfjaaGreatDoor

/- The document's own answer, walked: ValuesOf. -/
namespace Go.Proofs.YtdclmpdjjkjfjaaGreatDoor
open Go.RowKit

set_option maxHeartbeats 1600000 in
theorem valuesOf_any (l : List (ByteArray × ByteArray)) (name : ByteArray) (ao : Option Addr) (cap n : Nat) (w : World) (hl : IsV w ao cap n (pairV l)) (hn : l.length = n) (hN : n ≤ 1000000) (hs : ∀ p ∈ l, p.1.size ≤ 2000) (hnm : name.size ≤ 2000) :
    Calls Tryz.prog 44 #[.slice ao n cap, .string name] w fun e w' => ∃ ao' cap', e = .returned (.slice ao' (Fd.vals name l).length cap') ∧ OwnV w' w.heap.size 9 1 ao' cap' (Fd.vals name l).length (strV (Fd.vals name l)) ∧ Below w.heap.size w w' := by
  subst hn
  obtain ⟨i0, hi0, hz0, hz1, hz2⟩ := info_parts info_str
  have Hi := Hid.mk' hi0; have Hz0 := Hid.mk' hz0; have Hz1 := Hid.mk' hz1; have Hz2 := Hid.mk' hz2
  have H := Hid.mk' hl
  have Hs := Hid.mk' hs
  have HSn := Hid.mk' (fun W => small_any name W hnm)
  clear hl hs hi0 hz0 hz1 hz2
  go_enter Tryz.func44, Tryz.ntmps44
  go_wp2
  go_loopw [5, 6] (fun v t wr => ∃ (k : Nat) (ao' : Option Addr) (cap' : Nat), k ≤ l.length ∧ t = .int .i64 k ∧ v = .slice ao' (Fd.vals name (l.take k)).length cap' ∧ OwnV wr w.heap.size 9 1 ao' cap' (Fd.vals name (l.take k)).length (strV (Fd.vals name (l.take k))) ∧ Below w.heap.size w wr) (fun _ t _ => l.length - (intOf t).toNat)
  case atStart => exact ⟨0, none, 0, Nat.zero_le _, rfl, rfl, OwnV.nil _ _ _ _, Below.refl _ _⟩
  case round =>
    obtain ⟨k, ao', cap', hk, rfl, rfl, hO, hB⟩ := hrel
    have HO := Hid.mk' hO; have HB := Hid.mk' hB
    clear hO hB
    have hvl := Fd.vals_length name (l.take k)
    have hvk : (l.take k).length ≤ k := List.length_take_le _ _
    by_cases hlt : k < l.length
    · have hpl : 0 < (pairV l).length := by rw [pairV_length]; omega
      obtain ⟨bb, oo, rfl, hcs⟩ := H.out.lit hpl
      have HC : Hid (∀ W, Below w.heap.size w W → W.cell? ⟨bb, oo + k * 2, none⟩ = some (.string l[k].1) ∧ W.cell? ⟨bb, oo + k * 2 + 1, none⟩ = some (.string l[k].2)) := fun W hW => by
        have h1 := hcs _ _ (pairV_at l k hlt).1
        have h2 := hcs _ _ (pairV_at l k hlt).2
        rw [← Nat.add_assoc] at h2
        exact ⟨(hW.cell (World.block_lt_of_cell? w _ h1)).trans h1, (hW.cell (World.block_lt_of_cell? w _ h2)).trans h2⟩
      clear hcs
      have HT : Hid (l.take (k + 1) = l.take k ++ [l[k]]) := List.take_succ_eq_append_getElem hlt
      have hp1 := Hs.out l[k] (List.getElem_mem hlt)
      have HSp := Hid.mk' (fun W => small_any l[k].1 W hp1)
      have hc0 := (HC.out wr HB.out).1
      have hlt' : (k : Int) < l.length := by omega
      have HV := Hid.mk' (Fd.vals_snoc name (l.take k) l[k])
      rw [← HT.out] at HV
      generalize l[k] = p at *
      have HTx : Hid (((⟨(Ch.lower p.1.data.toList).toArray⟩ : ByteArray).toList == (⟨(Ch.lower name.data.toList).toArray⟩ : ByteArray).toList) = decide (Ch.lower p.1.data.toList = Ch.lower name.data.toList)) := by
        unfold Hid; rw [Lib.toList_data, Lib.toList_data, Bool.eq_iff_iff]; simp
      generalize (⟨(Ch.lower p.1.data.toList).toArray⟩ : ByteArray) = sp at HSp HTx
      generalize (⟨(Ch.lower name.data.toList).toArray⟩ : ByteArray) = sn at HSn HTx
      generalize Fd.vals name (l.take k) = vs at HO HV hvl
      by_cases heq : Ch.lower p.1.data.toList = Ch.lower name.data.toList
      · have hx := HTx.out
        rw [decide_eq_true heq] at hx
        have HV2 : Hid (Fd.vals name (l.take (k + 1)) = vs ++ [p.2]) := by have := HV.out; rw [if_pos heq] at this; exact this
        clear HV HTx heq
        go_wp2_with fail
        refine (HSp.out _).mono ?_
        rintro e w1 ⟨rfl, n1, hw⟩
        subst hw
        go_wp2_with fail
        refine (HSn.out _).mono ?_
        rintro e w2 ⟨rfl, n2, hw⟩
        have HB2 : Hid (Below w.heap.size w w2) := by rw [hw]; exact HB.out.trans ⟨rfl, rfl, rfl, Nat.le_refl _, fun _ _ => rfl⟩
        have HO2 : Hid (OwnV w2 w.heap.size 9 1 ao' cap' vs.length (strV vs)) := by rw [hw]; exact HO.out
        clear hw hc0
        have hc1 := (HC.out w2 HB2.out).2
        go_wp2_with (at_builtin; refine wpList_append_v rfl (.tmp 22) (.tmp 28) 82 rfl w.heap.size 9 i0 (.string ⟨#[]⟩) 1 16 Tryz.underlying82 Hi.out Hz0.out Hz1.out Hz2.out rfl (by decide) rfl (HO2.out.alloc _) rfl (IsV.made _ _ 1 _ _) rfl (fun u hu => by simp at hu; subst hu; rfl) (by omega) (by omega) (by have := HB2.out.size; simp; omega) ?_; intro ao3 cap3 w3 hO3 hG3 _)
        go_roundw
        case rel =>
          have e1 : Fd.vals name (l.take (k + 1)) = vs ++ [p.2] := HV2.out
          refine ⟨k + 1, ao3, cap3, by omega, by go_num, by rw [e1, List.length_append]; rfl, ?_, ?_⟩
          · rw [e1, List.length_append, strV_append]; exact hO3
          · exact (HB2.out.alloc HB2.out.size _).grown hG3 (by have := HB2.out.size; simp; omega) (fun q e => by
              cases ao' with
              | none => simp [blockOf] at e
              | some y => simp only [blockOf, Option.some.injEq] at e; have := (HO2.out.block y rfl).1; omega)
        case measure => simp [intOf]; omega
      · have hx := HTx.out
        rw [decide_eq_false heq] at hx
        have HV2 : Hid (Fd.vals name (l.take (k + 1)) = vs) := by have := HV.out; rw [if_neg heq] at this; exact this
        clear HV HTx heq
        go_wp2_with fail
        refine (HSp.out _).mono ?_
        rintro e w1 ⟨rfl, n1, hw⟩
        subst hw
        go_wp2_with fail
        refine (HSn.out _).mono ?_
        rintro e w2 ⟨rfl, n2, hw⟩
        have HB2 : Hid (Below w.heap.size w w2) := by rw [hw]; exact HB.out.trans ⟨rfl, rfl, rfl, Nat.le_refl _, fun _ _ => rfl⟩
        have HO2 : Hid (OwnV w2 w.heap.size 9 1 ao' cap' vs.length (strV vs)) := by rw [hw]; exact HO.out
        clear hw hc0
        go_wp2
        go_roundw
        case rel => exact ⟨k + 1, ao', cap', by omega, by go_num, by rw [HV2.out], by rw [HV2.out]; exact HO2.out, HB2.out⟩
        case measure => simp [intOf]; omega
    · obtain rfl : k = l.length := by omega
      go_wp2
      go_ret
      have e : l.take l.length = l := List.take_length
      have h1 := HO.out
      rw [e] at h1
      exact ⟨ao', cap', by rw [e]; rfl, h1, HB.out⟩
end Go.Proofs.YtdclmpdjjkjfjaaGreatDoor

/- The document's own answer, walked: OneOf. -/
namespace Go.Proofs.YtdclmpdjjkjfjaaGreatDoor
open Go.RowKit

set_option maxHeartbeats 800000 in
theorem oneOf_any (l : List (ByteArray × ByteArray)) (name : ByteArray) (ao : Option Addr) (cap n : Nat) (w : World) (hl : IsV w ao cap n (pairV l)) (hn : l.length = n) (hN : n ≤ 1000000) (hs : ∀ p ∈ l, p.1.size ≤ 2000) (hnm : name.size ≤ 2000) :
    Calls Tryz.prog 20 #[.slice ao n cap, .string name] w fun e w' => e = .returned (txVal (Fd.one (Fd.vals name l))) ∧ Below w.heap.size w w' := by
  have HV := Hid.mk' (valuesOf_any l name ao cap n w hl hn hN hs hnm)
  have hvl := Fd.vals_length name l
  rw [hn] at hvl
  generalize Fd.vals name l = vs at HV hvl
  clear hl hs
  rcases vs with _ | ⟨v, _ | ⟨v2, t⟩⟩
  · go_enter Tryz.func20, Tryz.ntmps20
    go_wp2_with fail
    refine HV.out.mono ?_
    rintro e w1 ⟨ao1, cap1, rfl, hO, hB⟩
    have HO := Hid.mk' hO; have HB := Hid.mk' hB
    clear hO hB HV
    go_wp2
    go_ret2
    exact ⟨ret_tx (p := ([], 10)) rfl rfl, HB.out⟩
  · go_enter Tryz.func20, Tryz.ntmps20
    go_wp2_with fail
    refine HV.out.mono ?_
    rintro e w1 ⟨ao1, cap1, rfl, hO, hB⟩
    have HO := Hid.mk' hO; have HB := Hid.mk' hB
    clear hO hB HV
    obtain ⟨bb, oo, rfl, hcs⟩ := HO.out.isV.lit (by simp [strV])
    have hc := hcs 0 (.string v) rfl
    rw [Nat.add_zero] at hc
    clear hcs
    go_wp2
    go_ret2
    exact ⟨ret_tx (p := (v.data.toList, 0)) rfl rfl, HB.out⟩
  · have t0 : (((v :: v2 :: t).length : Int) == 0) = false := by rw [beq_eq_false_iff_ne, List.length_cons, List.length_cons]; omega
    have t1 : decide (((v :: v2 :: t).length : Int) > 1) = true := by rw [decide_eq_true_eq, List.length_cons, List.length_cons]; omega
    have HR : Hid (Fd.one (v :: v2 :: t) = ([], 9)) := rfl
    generalize v :: v2 :: t = vs at *
    generalize vs.length = L at *
    go_enter Tryz.func20, Tryz.ntmps20
    go_wp2_with fail
    refine HV.out.mono ?_
    rintro e w1 ⟨ao1, cap1, rfl, hO, hB⟩
    have HO := Hid.mk' hO; have HB := Hid.mk' hB
    clear hO hB HV
    go_wp2
    go_ret2
    exact ⟨ret_tx (p := ([], 9)) HR.out rfl, HB.out⟩
end Go.Proofs.YtdclmpdjjkjfjaaGreatDoor
