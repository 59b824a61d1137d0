/- Small texts, one behind the other: FdVals, FlB, RqNum, RfVals. -/
import Derived.Test.YtbcmlolaihnalacGreatDoorPk2
import Derived.Test.YtbcmlolaihnalacGreatDoorPk7
import Derived.Test.YtbcmlolaihnalacGreatDoorPk10
import Derived.Test.YtbcmlolaihnalacGreatDoorPk5
import Derived.Test.YtbcmlolaihnalacGreatDoorPk14
import Derived.Test.YtbcmlolaihnalacGreatDoorPk15
/- Values of a name's fields, and a field that is told, as plain things and as values. -/
namespace Go.Proofs.YtbcmlolaihnalacGreatDoor
open Go.RowKit

theorem info_str : (Tryz.prog.info? 9).map (fun i => (i.zero, i.size, i.bytes)) = some (some (.string ⟨#[]⟩), 1, 16) := by kernel_rfl

/-- the values of a name's fields, in their order -/
def Fd.vals (name : ByteArray) (l : List (ByteArray × ByteArray)) : List ByteArray := (l.filter fun p => decide (Ch.lower p.1.data.toList = Ch.lower name.data.toList)).map (·.2)
theorem Fd.vals_snoc (name : ByteArray) (l : List (ByteArray × ByteArray)) (p : ByteArray × ByteArray) :
    Fd.vals name (l ++ [p]) = if Ch.lower p.1.data.toList = Ch.lower name.data.toList then Fd.vals name l ++ [p.2] else Fd.vals name l := by
  unfold Fd.vals
  rw [List.filter_append, List.map_append]
  by_cases h : Ch.lower p.1.data.toList = Ch.lower name.data.toList
  · rw [if_pos h]; simp [h]
  · rw [if_neg h]; simp [h]
theorem Fd.vals_length (name : ByteArray) (l : List (ByteArray × ByteArray)) : (Fd.vals name l).length ≤ l.length := by
  unfold Fd.vals; rw [List.length_map]; exact List.length_filter_le _ _

/-- the one value of a name's fields, or a code -/
def Fd.one (vs : List ByteArray) : List UInt8 × Nat :=
  match vs with
  | [] => ([], 10)
  | [v] => (v.data.toList, 0)
  | _ => ([], 9)

/-- what is told, as a value -/
def Fd.val (t : Fd.Told) : Value := .tuple #[.agg #[.string ⟨t.name.toArray⟩, .string ⟨t.value.toArray⟩], .int .i64 (t.code : Int)]
end Go.Proofs.YtbcmlolaihnalacGreatDoor

/- Fields as they lie in memory, as plain bytes; a body's length by the values of its head's fields. -/
namespace Go.Proofs.YtbcmlolaihnalacGreatDoor
open Go.RowKit

/-- a length or a code, as a value -/
def Rq.lenVal : Nat ⊕ Int → Value
  | .inl c => .tuple #[.int .i64 0, .int .i64 (c : Int)]
  | .inr k => .tuple #[.int .i64 k, .int .i64 0]
/-- fields as bytes -/
def Rq.flB (l : List (ByteArray × ByteArray)) : List Rq.Fl := l.map fun p => (p.1.data.toList, p.2.data.toList)
theorem Rq.vals_flB (l : List (ByteArray × ByteArray)) (name : ByteArray) (hn : Ch.lower name.data.toList = name.data.toList) : Rq.vals (Rq.flB l) name.data.toList = (Fd.vals name l).map (fun x => x.data.toList) := by
  unfold Rq.vals Rq.flB Fd.vals
  rw [List.filter_map, List.map_map, List.map_map, hn]
  have e : (fun f : Rq.Fl => Ch.lower f.1 == name.data.toList) ∘ (fun p : ByteArray × ByteArray => (p.1.data.toList, p.2.data.toList)) = fun p => decide (Ch.lower p.1.data.toList = name.data.toList) := by
    funext p; rw [Bool.eq_iff_iff]; simp
  rw [e]
  rfl
def bHost : ByteArray := ⟨#[104, 111, 115, 116]⟩
def bSize : ByteArray := ⟨#[99, 111, 110, 116, 101, 110, 116, 45, 108, 101, 110, 103, 116, 104]⟩
def bCode : ByteArray := ⟨#[116, 114, 97, 110, 115, 102, 101, 114, 45, 101, 110, 99, 111, 100, 105, 110, 103]⟩
theorem Fd.vals_mem {name : ByteArray} {l : List (ByteArray × ByteArray)} {v : ByteArray} (h : v ∈ Fd.vals name l) : ∃ p ∈ l, p.2 = v := by
  unfold Fd.vals at h
  obtain ⟨p, hp, e⟩ := List.mem_map.1 h
  exact ⟨p, (List.mem_filter.1 hp).1, e⟩

/-- a body's length, by the values of its head's fields -/
def Rq.lenOf (mi : Nat) (H V C : List (List UInt8)) : Nat ⊕ Int :=
  if 1 < H.length ∨ H.length = 0 ∧ mi = 1 then .inl 13
  else if C ≠ [] then
    (if V ≠ [] ∨ mi = 0 then .inl 12
     else if C.length ≠ 1 ∨ Ch.lower (C.headD []) ≠ Rq.nChunked then .inl 11
     else .inr (-1))
  else match Rq.sizes (V.headD []) 0 V with
    | .inl c => .inl c
    | .inr n => if 4000 < n then .inl 4 else .inr n
theorem Rq.len_eq (h : Rq.Hd) : Rq.len h = Rq.lenOf h.minor (Rq.vals h.fields Rq.nHost) (Rq.vals h.fields Rq.nSize) (Rq.vals h.fields Rq.nCode) := rfl
def Rq.lists (vs : List ByteArray) : List (List UInt8) := vs.map fun x => x.data.toList
/-- fields as texts -/
def Rq.flT (l : List Rq.Fl) : List (ByteArray × ByteArray) := l.map fun p => (⟨p.1.toArray⟩, ⟨p.2.toArray⟩)
theorem Rq.flB_flT (l : List Rq.Fl) : Rq.flB (Rq.flT l) = l := by
  unfold Rq.flB Rq.flT
  rw [List.map_map]
  exact List.map_id' l
theorem Rq.flT_length (l : List Rq.Fl) : (Rq.flT l).length = l.length := by simp [Rq.flT]
theorem Rq.flT_append (a b : List Rq.Fl) : Rq.flT (a ++ b) = Rq.flT a ++ Rq.flT b := by simp [Rq.flT]
/-- a name in letters small or not -/
theorem Fd.vals_same (a b : ByteArray) (l : List (ByteArray × ByteArray)) (h : Ch.lower a.data.toList = Ch.lower b.data.toList) : Fd.vals a l = Fd.vals b l := by
  unfold Fd.vals; rw [h]
/-- Content-Lengths: one number, or a code -/
def Rq.sameNum (V : List (List UInt8)) : Nat ⊕ Int :=
  match Rq.sizes (V.headD []) 0 V with
    | .inl c => .inl c
    | .inr n => if 4000 < n then .inl 4 else .inr n
/-- a length behind the Host -/
def Rq.lenBy (mi : Nat) (V C : List (List UInt8)) : Nat ⊕ Int :=
  if C ≠ [] then
    (if V ≠ [] ∨ mi = 0 then .inl 12
     else if C.length ≠ 1 ∨ Ch.lower (C.headD []) ≠ Rq.nChunked then .inl 11
     else .inr (-1))
  else Rq.sameNum V
theorem Rq.lenOf_eq (mi : Nat) (H V C : List (List UInt8)) : Rq.lenOf mi H V C = if 1 < H.length ∨ H.length = 0 ∧ mi = 1 then .inl 13 else Rq.lenBy mi V C := rfl
theorem Rq.number_range (x : List UInt8) : 0 ≤ (Ch.number 10 9 x).1 ∧ (Ch.number 10 9 x).1 < 68719476736 := by
  unfold Ch.number
  split
  · exact ⟨Int.le_refl _, by decide⟩
  · split
    · rename_i h1 h2
      have hl9 : ¬ (9 : Int) < x.length := fun e => h1 (Or.inr e)
      exact Ch.numOf_bound 10 (by omega) (by omega) _ h2 (by omega)
    · exact ⟨Int.le_refl _, by decide⟩
end Go.Proofs.YtbcmlolaihnalacGreatDoor

/- Package request, walked: sameNumber. -/
namespace Go.Proofs.YtbcmlolaihnalacGreatDoor
open Go.RowKit

set_option maxRecDepth 100000 in
set_option maxHeartbeats 2000000 in
theorem sameNumber_any (vs : List ByteArray) (ao : Option Addr) (cap : Nat) (w : World) (hl : IsV w ao cap vs.length (strV vs)) (hN : vs.length ≤ 1000000) (hs : ∀ v ∈ vs, v.size ≤ 2000) :
    Calls Tryz.prog 98 #[.slice ao vs.length cap] w fun e w' => e = .returned (Rq.lenVal (Rq.sameNum (Rq.lists vs))) ∧ w' = w := by
  have HL := Hid.mk' hl; have HZs := Hid.mk' hs
  have HE : Hid (Rq.sameNum (Rq.lists vs) = match Rq.sizes ((Rq.lists vs).headD []) 0 (Rq.lists vs) with | .inl c => .inl c | .inr n => if 4000 < n then .inl 4 else .inr n) := rfl
  generalize Rq.sameNum (Rq.lists vs) = RES at HE ⊢
  clear hl hs
  go_enter Tryz.func98, Tryz.ntmps98
  go_wp2
  go_loopw [4, 11] (fun vn vi wr => ∃ (i : Nat) (n : Int), i ≤ vs.length ∧ vi = .int .i64 i ∧ vn = .int .i64 n ∧ 0 ≤ n ∧ n < 68719476736 ∧ Rq.sizes ((Rq.lists vs).headD []) 0 (Rq.lists vs) = Rq.sizes ((Rq.lists vs).headD []) n ((Rq.lists vs).drop i) ∧ wr = w) (fun _ vi _ => vs.length - (intOf vi).toNat)
  case atStart => exact ⟨0, 0, Nat.zero_le _, rfl, rfl, Int.le_refl _, by decide, rfl, rfl⟩
  case round =>
    obtain ⟨i, n, hi, rfl, rfl, hn0, hn1, hsz, rfl⟩ := hrel
    have HZ := Hid.mk' hsz
    clear hsz
    by_cases hlt : i < vs.length
    · obtain ⟨bb, oo, rfl, hc⟩ := HL.out.lit (by rw [strV_length]; omega)
      have hlt' : (i : Int) < vs.length := by omega
      have hcv := HL.out.1
      have c0 : wr.cell? ⟨bb, oo, none⟩ = some (.string vs[0]) := by have := hc 0 _ (strV_at vs 0 (by omega)); simpa using this
      have ci : wr.cell? ⟨bb, oo + i, none⟩ = some (.string vs[i]) := hc i _ (strV_at vs i hlt)
      have HNo := Hid.mk' (number10_any vs[i] wr (by have := HZs.out vs[i] (List.getElem_mem hlt); unfold maxLen; omega))
      have hdr : (Rq.lists vs).drop i = vs[i].data.toList :: (Rq.lists vs).drop (i + 1) := by
        unfold Rq.lists
        rw [List.drop_eq_getElem_cons (by rw [List.length_map]; exact hlt), List.getElem_map]
      have hhd : (Rq.lists vs).headD [] = vs[0].data.toList := by
        unfold Rq.lists
        cases vs with
        | nil => simp at hlt
        | cons v r => rfl
      have hz := HZ.out
      rw [hdr, Rq.sizes] at hz
      have hnb := Rq.number_range vs[i].data.toList
      have hsame : (vs[i].toList == vs[0].toList) = decide (vs[i].data.toList = (Rq.lists vs).headD []) := by
        rw [hhd, Lib.toList_data, Lib.toList_data, Bool.eq_iff_iff]; simp
      have HZ2 := Hid.mk' hz
      clear hdr hz hhd HZ hc
      generalize vs[i] = x at *
      generalize vs[0] = y at *
      generalize (Ch.number 10 9 x.data.toList).1 = n2 at *
      generalize (Ch.number 10 9 x.data.toList).2 = ok at *
      have hn20 := hnb.1
      have hn21 := hnb.2
      clear hnb
      cases ok
      · go_wp2_with (go_at_call 113; refine HNo.out.mono ?_; rintro e w2 ⟨rfl, hw⟩; subst hw)
        (try simp only [Exit.inBlock, Exit.then])
        go_ret2
        have := HE.out
        rw [HZ2.out] at this
        first | rw [if_pos rfl] at this | rw [if_pos trivial] at this
        exact ⟨by rw [this]; rfl, rfl⟩
      · by_cases he : x.data.toList = (Rq.lists vs).headD []
        · rw [decide_eq_true he] at hsame
          have HD := Hid.mk' he
          clear he
          go_wp2_with (go_at_call 113; refine HNo.out.mono ?_; rintro e w2 ⟨rfl, hw⟩; subst hw)
          go_roundw
          case rel =>
            refine ⟨i + 1, n2, by omega, by go_num, rfl, hn20, hn21, ?_, by first | rfl | trivial⟩
            have := HZ2.out
            rw [if_neg (by simp), if_neg (fun e => e HD.out)] at this
            exact this
          case measure => simp [intOf]; omega
        · rw [decide_eq_false he] at hsame
          have HD := Hid.mk' he
          clear he
          go_wp2_with (go_at_call 113; refine HNo.out.mono ?_; rintro e w2 ⟨rfl, hw⟩; subst hw)
          (try simp only [Exit.inBlock, Exit.then])
          go_ret2
          have := HE.out
          rw [HZ2.out, if_neg (by simp), if_pos HD.out] at this
          exact ⟨by rw [this]; rfl, rfl⟩
    · obtain rfl : i = vs.length := by omega
      have hE := HE.out
      rw [HZ.out, List.drop_eq_nil_of_le (by unfold Rq.lists; simp), Rq.sizes] at hE
      simp only at hE
      by_cases h4 : 4000 < n
      · rw [if_pos h4] at hE
        have t4 : decide (n > 4000) = true := decide_eq_true h4
        have HE2 := Hid.mk' hE
        clear hE h4
        go_wp2
        go_ret2
        exact ⟨by rw [HE2.out]; rfl, rfl⟩
      · rw [if_neg h4] at hE
        have t4 : decide (n > 4000) = false := decide_eq_false h4
        have HE2 := Hid.mk' hE
        clear hE h4
        go_wp2
        go_ret2
        exact ⟨by rw [HE2.out]; rfl, rfl⟩
end Go.Proofs.YtbcmlolaihnalacGreatDoor

/- The document's own answer, walked: ValuesOf. -/
namespace Go.Proofs.YtbcmlolaihnalacGreatDoor
open Go.RowKit

set_option maxHeartbeats 1600000 in
theorem valuesOf_any (l : List (ByteArray × ByteArray)) (name : ByteArray) (ao : Option Addr) (cap n : Nat) (w : World) (hl : IsV w ao cap n (pairV l)) (hn : l.length = n) (hN : n ≤ 1000000) (hs : ∀ p ∈ l, p.1.size ≤ 2000) (hnm : name.size ≤ 2000) :
    Calls Tryz.prog 17 #[.slice ao n cap, .string name] w fun e w' => ∃ ao' cap', e = .returned (.slice ao' (Fd.vals name l).length cap') ∧ OwnV w' w.heap.size 9 1 ao' cap' (Fd.vals name l).length (strV (Fd.vals name l)) ∧ Below w.heap.size w w' := by
  subst hn
  obtain ⟨i0, hi0, hz0, hz1, hz2⟩ := info_parts info_str
  have Hi := Hid.mk' hi0; have Hz0 := Hid.mk' hz0; have Hz1 := Hid.mk' hz1; have Hz2 := Hid.mk' hz2
  have H := Hid.mk' hl
  have Hs := Hid.mk' hs
  have HSn := Hid.mk' (fun W => small_any name W hnm)
  clear hl hs hi0 hz0 hz1 hz2
  go_enter Tryz.func17, Tryz.ntmps17
  go_wp2
  go_loopw [5, 6] (fun v t wr => ∃ (k : Nat) (ao' : Option Addr) (cap' : Nat), k ≤ l.length ∧ t = .int .i64 k ∧ v = .slice ao' (Fd.vals name (l.take k)).length cap' ∧ OwnV wr w.heap.size 9 1 ao' cap' (Fd.vals name (l.take k)).length (strV (Fd.vals name (l.take k))) ∧ Below w.heap.size w wr) (fun _ t _ => l.length - (intOf t).toNat)
  case atStart => exact ⟨0, none, 0, Nat.zero_le _, rfl, rfl, OwnV.nil _ _ _ _, Below.refl _ _⟩
  case round =>
    obtain ⟨k, ao', cap', hk, rfl, rfl, hO, hB⟩ := hrel
    have HO := Hid.mk' hO; have HB := Hid.mk' hB
    clear hO hB
    have hvl := Fd.vals_length name (l.take k)
    have hvk : (l.take k).length ≤ k := List.length_take_le _ _
    by_cases hlt : k < l.length
    · have hpl : 0 < (pairV l).length := by rw [pairV_length]; omega
      obtain ⟨bb, oo, rfl, hcs⟩ := H.out.lit hpl
      have HC : Hid (∀ W, Below w.heap.size w W → W.cell? ⟨bb, oo + k * 2, none⟩ = some (.string l[k].1) ∧ W.cell? ⟨bb, oo + k * 2 + 1, none⟩ = some (.string l[k].2)) := fun W hW => by
        have h1 := hcs _ _ (pairV_at l k hlt).1
        have h2 := hcs _ _ (pairV_at l k hlt).2
        rw [← Nat.add_assoc] at h2
        exact ⟨(hW.cell (World.block_lt_of_cell? w _ h1)).trans h1, (hW.cell (World.block_lt_of_cell? w _ h2)).trans h2⟩
      clear hcs
      have HT : Hid (l.take (k + 1) = l.take k ++ [l[k]]) := List.take_succ_eq_append_getElem hlt
      have hp1 := Hs.out l[k] (List.getElem_mem hlt)
      have HSp := Hid.mk' (fun W => small_any l[k].1 W hp1)
      have hc0 := (HC.out wr HB.out).1
      have hlt' : (k : Int) < l.length := by omega
      have HV := Hid.mk' (Fd.vals_snoc name (l.take k) l[k])
      rw [← HT.out] at HV
      generalize l[k] = p at *
      have HTx : Hid (((⟨(Ch.lower p.1.data.toList).toArray⟩ : ByteArray).toList == (⟨(Ch.lower name.data.toList).toArray⟩ : ByteArray).toList) = decide (Ch.lower p.1.data.toList = Ch.lower name.data.toList)) := by
        unfold Hid; rw [Lib.toList_data, Lib.toList_data, Bool.eq_iff_iff]; simp
      generalize (⟨(Ch.lower p.1.data.toList).toArray⟩ : ByteArray) = sp at HSp HTx
      generalize (⟨(Ch.lower name.data.toList).toArray⟩ : ByteArray) = sn at HSn HTx
      generalize Fd.vals name (l.take k) = vs at HO HV hvl
      by_cases heq : Ch.lower p.1.data.toList = Ch.lower name.data.toList
      · have hx := HTx.out
        rw [decide_eq_true heq] at hx
        have HV2 : Hid (Fd.vals name (l.take (k + 1)) = vs ++ [p.2]) := by have := HV.out; rw [if_pos heq] at this; exact this
        clear HV HTx heq
        go_wp2_with fail
        refine (HSp.out _).mono ?_
        rintro e w1 ⟨rfl, n1, hw⟩
        subst hw
        go_wp2_with fail
        refine (HSn.out _).mono ?_
        rintro e w2 ⟨rfl, n2, hw⟩
        have HB2 : Hid (Below w.heap.size w w2) := by rw [hw]; exact HB.out.trans ⟨rfl, rfl, rfl, Nat.le_refl _, fun _ _ => rfl⟩
        have HO2 : Hid (OwnV w2 w.heap.size 9 1 ao' cap' vs.length (strV vs)) := by rw [hw]; exact HO.out
        clear hw hc0
        have hc1 := (HC.out w2 HB2.out).2
        go_wp2_with (at_builtin; refine wpList_append_v rfl (.tmp 22) (.tmp 28) 49 rfl w.heap.size 9 i0 (.string ⟨#[]⟩) 1 16 Tryz.underlying49 Hi.out Hz0.out Hz1.out Hz2.out rfl (by decide) rfl (HO2.out.alloc _) rfl (IsV.made _ _ 1 _ _) rfl (fun u hu => by simp at hu; subst hu; rfl) (by omega) (by omega) (by have := HB2.out.size; simp; omega) ?_; intro ao3 cap3 w3 hO3 hG3 _)
        go_roundw
        case rel =>
          have e1 : Fd.vals name (l.take (k + 1)) = vs ++ [p.2] := HV2.out
          refine ⟨k + 1, ao3, cap3, by omega, by go_num, by rw [e1, List.length_append]; rfl, ?_, ?_⟩
          · rw [e1, List.length_append, strV_append]; exact hO3
          · exact (HB2.out.alloc HB2.out.size _).grown hG3 (by have := HB2.out.size; simp; omega) (fun q e => by
              cases ao' with
              | none => simp [blockOf] at e
              | some y => simp only [blockOf, Option.some.injEq] at e; have := (HO2.out.block y rfl).1; omega)
        case measure => simp [intOf]; omega
      · have hx := HTx.out
        rw [decide_eq_false heq] at hx
        have HV2 : Hid (Fd.vals name (l.take (k + 1)) = vs) := by have := HV.out; rw [if_neg heq] at this; exact this
        clear HV HTx heq
        go_wp2_with fail
        refine (HSp.out _).mono ?_
        rintro e w1 ⟨rfl, n1, hw⟩
        subst hw
        go_wp2_with fail
        refine (HSn.out _).mono ?_
        rintro e w2 ⟨rfl, n2, hw⟩
        have HB2 : Hid (Below w.heap.size w w2) := by rw [hw]; exact HB.out.trans ⟨rfl, rfl, rfl, Nat.le_refl _, fun _ _ => rfl⟩
        have HO2 : Hid (OwnV w2 w.heap.size 9 1 ao' cap' vs.length (strV vs)) := by rw [hw]; exact HO.out
        clear hw hc0
        go_wp2
        go_roundw
        case rel => exact ⟨k + 1, ao', cap', by omega, by go_num, by rw [HV2.out], by rw [HV2.out]; exact HO2.out, HB2.out⟩
        case measure => simp [intOf]; omega
    · obtain rfl : k = l.length := by omega
      go_wp2
      go_ret
      have e : l.take l.length = l := List.take_length
      have h1 := HO.out
      rw [e] at h1
      exact ⟨ao', cap', by rw [e]; rfl, h1, HB.out⟩
end Go.Proofs.YtbcmlolaihnalacGreatDoor
