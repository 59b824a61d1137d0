/- Small texts, one behind the other: PmRdD, PmRdE, PmFnd, PmFind, PmMedia, PmMedB, PmCaught. -/
import Derived.Test.YtdclmpdjjkjfjaaGreatDoorPk16
import Derived.Test.YtdclmpdjjkjfjaaGreatDoorPk14
import Derived.Test.YtdclmpdjjkjfjaaGreatDoorPk22
import Derived.Test.YtdclmpdjjkjfjaaGreatDoorPk3
import Derived.Test.YtdclmpdjjkjfjaaGreatDoorPk5
import Derived.Defers
import Derived.Recover
/- Package params, walked: a reader's word and param. -/
namespace Go.Proofs.YtdclmpdjjkjfjaaGreatDoor
open Go.RowKit

/-- a word at a place: a code, or it and where it ends -/
def Pm.wrdN (l : List UInt8) (i : Nat) : Nat ⊕ (List UInt8 × Nat) :=
  if Pm.word l i = 0 then .inl 5
  else if l[i + Pm.word l i]? = some 47 then
    (if Pm.word l (i + Pm.word l i + 1) = 0 then .inl 5
     else .inr (Ch.lower ((l.drop i).take (Pm.word l i)) ++ [47] ++ Ch.lower ((l.drop (i + Pm.word l i + 1)).take (Pm.word l (i + Pm.word l i + 1))), i + Pm.word l i + 1 + Pm.word l (i + Pm.word l i + 1)))
  else .inr (Ch.lower ((l.drop i).take (Pm.word l i)), i + Pm.word l i)
def WrdOut (m : Nat ⊕ (List UInt8 × Nat)) (w : World) (g : Nat) (s : ByteArray) (e : Ending) (w' : World) : Prop := match m with
  | .inl c => e = gave c ∧ Turns (only g) w w'
  | .inr x => e = .returned (.string ⟨x.1.toArray⟩) ∧ x.2 ≤ s.size ∧ RdAt w' g s x.2 ∧ Turns (only g) w w'
theorem extract_list (s : ByteArray) (i n : Nat) : (s.extract i (i + n)).data.toList = (s.data.toList.drop i).take n := by
  rw [Lib.extract_data]; simp
theorem lower_parts (a b : List UInt8) : Ch.lower (a ++ (47 :: b)) = Ch.lower a ++ [47] ++ Ch.lower b := by
  have : Ch.lowB 47 = 47 := by decide
  simp [Ch.lower, this]

set_option maxHeartbeats 1600000 in
theorem wordR_any (s : ByteArray) (i g : Nat) (w : World) (h : RdAt w g s i) (hs : s.size ≤ 1000000) (hi : i ≤ s.size) :
    Calls Tryz.prog 166 #[.pointer (some ⟨g, 0, none⟩)] w fun e w' => WrdOut (Pm.wrdN s.data.toList i) w g s e w' := by
  have hl : s.data.toList.length = s.size := by rw [Array.length_toList]; rfl
  have hw := Pm.word_le s.data.toList i (by rw [hl]; exact hi)
  rw [hl] at hw
  by_cases h0 : Pm.word s.data.toList i = 0
  · have HR : Hid (Pm.wrdN s.data.toList i = .inl 5) := by unfold Hid Pm.wrdN; rw [if_pos h0]
    have HT := Hid.mk' (token_no s i g w h hs hi h0)
    clear h0 hw hl
    go_enter Tryz.func166, Tryz.ntmps166
    go_wp2_with fail
    refine HT.out.mono ?_
    rintro e w2 ⟨he, h2⟩
    unfold gave at he
    subst he
    go_wp2
    refine ⟨rfl, ?_⟩
    rw [HR.out]
    exact ⟨rfl, h2⟩
  · have HT := Hid.mk' (token_yes s i g w h hs hi h0)
    have hx := extract_list s i (Pm.word s.data.toList i)
    have hxz : (s.extract i (i + Pm.word s.data.toList i)).size ≤ s.size := by simp; omega
    by_cases h47 : s.data.toList[i + Pm.word s.data.toList i]? = some 47
    · have hlt : i + Pm.word s.data.toList i < s.size := by
        have := (List.getElem?_eq_some_iff.1 h47).1
        rwa [hl] at this
      have hw2 := Pm.word_le s.data.toList (i + Pm.word s.data.toList i + 1) (by rw [hl]; omega)
      rw [hl] at hw2
      by_cases h1 : Pm.word s.data.toList (i + Pm.word s.data.toList i + 1) = 0
      · have HR : Hid (Pm.wrdN s.data.toList i = .inl 5) := by unfold Hid Pm.wrdN; rw [if_neg h0, if_pos h47, if_pos h1]
        have H47 := Hid.mk' h47
        have H1 := Hid.mk' h1
        clear h0 h47 h1 hx hw2 hl
        generalize Pm.word s.data.toList i = n at *
        generalize s.extract i (i + n) = x at *
        go_enter Tryz.func166, Tryz.ntmps166
        go_wp2_with fail
        refine HT.out.mono ?_
        rintro e w1 ⟨rfl, h1, t1⟩
        have T1 := Hid.mk' t1
        have R1 := Hid.mk' h1
        clear t1 h1
        go_wp2_with fail
        refine (skip_yes s _ g 47 _ R1.out hs H47.out).mono ?_
        rintro e w2 ⟨rfl, h2, t2⟩
        have T2 := Hid.mk' (T1.out.trans t2 (fun _ h _ => h))
        have R2 := Hid.mk' h2
        clear t2 h2 T1 R1
        go_wp2_with fail
        refine (token_no s _ g _ R2.out hs (by omega) H1.out).mono ?_
        rintro e w3 ⟨he, t3⟩
        unfold gave at he
        subst he
        have T3 := Hid.mk' (T2.out.trans t3 (fun _ h _ => h))
        clear t3
        go_wp2
        refine ⟨rfl, ?_⟩
        rw [HR.out]
        exact ⟨rfl, T3.out⟩
      · have hy := extract_list s (i + Pm.word s.data.toList i + 1) (Pm.word s.data.toList (i + Pm.word s.data.toList i + 1))
        have hyz : (s.extract (i + Pm.word s.data.toList i + 1) (i + Pm.word s.data.toList i + 1 + Pm.word s.data.toList (i + Pm.word s.data.toList i + 1))).size ≤ s.size := by simp; omega
        have HR : Hid (Pm.wrdN s.data.toList i = .inr (Ch.lower (s.extract i (i + Pm.word s.data.toList i)).data.toList ++ [47] ++ Ch.lower (s.extract (i + Pm.word s.data.toList i + 1) (i + Pm.word s.data.toList i + 1 + Pm.word s.data.toList (i + Pm.word s.data.toList i + 1))).data.toList, i + Pm.word s.data.toList i + 1 + Pm.word s.data.toList (i + Pm.word s.data.toList i + 1))) := by
          unfold Hid Pm.wrdN; rw [if_neg h0, if_pos h47, if_neg h1, hx, hy]
        have HK := Hid.mk' (fun W (hW : RdAt W g s (i + Pm.word s.data.toList i + 1)) => token_yes s (i + Pm.word s.data.toList i + 1) g W hW hs (by omega) h1)
        have H47 := Hid.mk' h47
        clear h0 h47 h1 hx hy hl
        generalize Pm.word s.data.toList i = n at *
        generalize Pm.word s.data.toList (i + n + 1) = m at *
        generalize s.extract i (i + n) = x at *
        generalize s.extract (i + n + 1) (i + n + 1 + m) = y at *
        have hz : (x ++ (⟨#[47]⟩ ++ y)).size ≤ maxLen := by
          rw [ByteArray.size_append, ByteArray.size_append]; show x.size + (1 + y.size) ≤ maxLen; unfold maxLen; omega
        have HLo := Hid.mk' (fun W => lower_any (x ++ (⟨#[47]⟩ ++ y)) W hz)
        have hxy : (x ++ (⟨#[47]⟩ ++ y)).data.toList = x.data.toList ++ (47 :: y.data.toList) := by rw [Ch.data_append, Ch.data_append]; rfl
        rw [hxy, lower_parts] at HLo
        clear hxy hz
        generalize Ch.lower x.data.toList ++ [47] ++ Ch.lower y.data.toList = lo at *
        go_enter Tryz.func166, Tryz.ntmps166
        go_wp2_with fail
        refine HT.out.mono ?_
        rintro e w1 ⟨rfl, h1, t1⟩
        have T1 := Hid.mk' t1
        have R1 := Hid.mk' h1
        clear t1 h1
        go_wp2_with fail
        refine (skip_yes s _ g 47 _ R1.out hs H47.out).mono ?_
        rintro e w2 ⟨rfl, h2, t2⟩
        have T2 := Hid.mk' (T1.out.trans t2 (fun _ h _ => h))
        have R2 := Hid.mk' h2
        clear t2 h2 T1 R1
        go_wp2_with fail
        refine (HK.out _ R2.out).mono ?_
        rintro e w3 ⟨rfl, h3, t3⟩
        have T3 := Hid.mk' (T2.out.trans t3 (fun _ h _ => h))
        have R3 := Hid.mk' h3
        clear t3 h3 T2 R2
        generalize hX : x ++ (⟨#[47]⟩ ++ y) = xy at *
        go_wp2_with fail
        refine (HLo.out _).mono ?_
        rintro e w4 ⟨rfl, b4⟩
        have T4 := Hid.mk' (T3.out.trans (S' := only g) (Turns.of_below b4) (fun _ h _ => h))
        have R4 := Hid.mk' (R3.out.keep b4)
        clear b4
        go_wp2
        go_ret
        rw [HR.out]
        exact ⟨rfl, hw2, R4.out, T4.out⟩
    · have HR : Hid (Pm.wrdN s.data.toList i = .inr (Ch.lower (s.extract i (i + Pm.word s.data.toList i)).data.toList, i + Pm.word s.data.toList i)) := by
        unfold Hid Pm.wrdN; rw [if_neg h0, if_neg h47, hx]
      have HN := Hid.mk' (fun W (hW : RdAt W g s (i + Pm.word s.data.toList i)) => skip_no s (i + Pm.word s.data.toList i) g 47 W hW h47)
      clear h0 h47 hx hl
      generalize Pm.word s.data.toList i = n at *
      generalize s.extract i (i + n) = x at *
      have HLo := Hid.mk' (fun W => lower_any x W (by unfold maxLen; omega))
      generalize Ch.lower x.data.toList = lo at *
      go_enter Tryz.func166, Tryz.ntmps166
      go_wp2_with fail
      refine HT.out.mono ?_
      rintro e w1 ⟨rfl, h1, t1⟩
      have T1 := Hid.mk' t1
      have R1 := Hid.mk' h1
      clear t1 h1
      go_wp2_with fail
      refine (HN.out _ R1.out).mono ?_
      rintro e w2 ⟨rfl, h2, t2⟩
      have T2 := Hid.mk' (T1.out.trans t2 (fun _ h _ => h))
      have R2 := Hid.mk' h2
      clear t2 h2 T1 R1
      go_wp2_with fail
      refine (HLo.out _).mono ?_
      rintro e w4 ⟨rfl, b4⟩
      have T4 := Hid.mk' (T2.out.trans (S' := only g) (Turns.of_below b4) (fun _ h _ => h))
      have R4 := Hid.mk' (R2.out.keep b4)
      clear b4
      go_wp2
      go_ret
      rw [HR.out]
      exact ⟨rfl, hw, R4.out, T4.out⟩
end Go.Proofs.YtdclmpdjjkjfjaaGreatDoor

/- Package params, walked: a reader's param. -/
namespace Go.Proofs.YtdclmpdjjkjfjaaGreatDoor
open Go.RowKit

/-- a parameter at a place: a code, or it and what is left -/
def Pm.parN (l : List UInt8) (i : Nat) : Nat ⊕ (Pm.Par × List UInt8) :=
  if Pm.word l i = 0 then .inl 5
  else if l[i + Pm.word l i]? = some 61 then (match Pm.val (l.drop (i + Pm.word l i + 1)) with
    | .inl c => .inl c
    | .inr x => .inr ((Ch.lower ((l.drop i).take (Pm.word l i)), x.1), x.2))
  else .inl 5
theorem Pm.par_N (l : List UInt8) (i : Nat) : Pm.par (l.drop i) = if l[i]? = some 59 then Pm.parN l (Pm.blanks l (i + 1)) else .inl 5 := by
  rw [Pm.par_at]; rfl
def ParOut (m : Nat ⊕ (Pm.Par × List UInt8)) (w : World) (g : Nat) (s : ByteArray) (e : Ending) (w' : World) : Prop := match m with
  | .inl c => e = gave c ∧ Turns (only g) w w'
  | .inr x => e = .returned (.agg #[.string ⟨x.1.1.toArray⟩, .string ⟨x.1.2.toArray⟩]) ∧ (∃ j, j ≤ s.size ∧ RdAt w' g s j ∧ s.data.toList.drop j = x.2) ∧ Turns (only g) w w'
theorem ParOut.no {m : Nat ⊕ (Pm.Par × List UInt8)} {w w' : World} {g : Nat} {s : ByteArray} {c : Nat} (hm : m = .inl c) (ht : Turns (only g) w w') : ParOut m w g s (gave c) w' := by
  subst hm; exact ⟨rfl, ht⟩
theorem ParOut.yes {m : Nat ⊕ (Pm.Par × List UInt8)} {w w' : World} {g j : Nat} {s : ByteArray} {n v r : List UInt8} (hm : m = .inr ((n, v), r)) (hj : j ≤ s.size) (hr : RdAt w' g s j) (hd : s.data.toList.drop j = r) (ht : Turns (only g) w w') : ParOut m w g s (.returned (.agg #[.string ⟨n.toArray⟩, .string ⟨v.toArray⟩])) w' := by
  subst hm; exact ⟨rfl, ⟨j, hj, hr, hd⟩, ht⟩
/-- a reader, and beside it the place of the answer -/
structure PrAt (w : World) (g : Nat) (s : ByteArray) (k : Nat) (W : World) : Prop where
  res : W.heap[w.heap.size]? = some (.cells #[.string ⟨#[]⟩, .string ⟨#[]⟩] 133 (0, 0))
  rd : RdAt W g s k
  turns : Turns (only g) w W
  lt : g < w.heap.size
section
variable {w W w1 : World} {g k k' : Nat} {s : ByteArray}
theorem PrAt.made (h : RdAt w g s k) : PrAt w g s k (w.alloc (.cells #[.string ⟨#[]⟩, .string ⟨#[]⟩] 133)) :=
  ⟨heap_alloc_new w _, h.keep ((Below.refl _ _).alloc (Nat.le_refl _) _), Turns.of_below ((Below.refl _ _).alloc (Nat.le_refl _) _), h.lt⟩
theorem PrAt.feed (h : PrAt w g s k W) (h1 : RdAt w1 g s k') (h2 : Turns (only g) W w1) : PrAt w g s k' w1 :=
  ⟨h2.row h.res (fun e => by have := h.lt; unfold only at e; omega), h1, h.turns.trans h2 (fun _ h _ => h), h.lt⟩
theorem PrAt.keep (h : PrAt w g s k W) (hb : Below W.heap.size W w1) : PrAt w g s k w1 := h.feed (h.rd.keep hb) (Turns.of_below hb)
theorem PrAt.cells (h : PrAt w g s k W) : W.cell? ⟨w.heap.size, 0, none⟩ = some (.string ⟨#[]⟩) ∧ W.cell? ⟨w.heap.size, 1, none⟩ = some (.string ⟨#[]⟩) ∧ W.frozen? ⟨w.heap.size, 0, none⟩ = false ∧ W.frozen? ⟨w.heap.size, 1, none⟩ = false :=
  ⟨cell_of_row W _ 0 _ _ _ h.res, cell_of_row W _ 1 _ _ _ h.res, frozen_of_row W _ 0 _ _ h.res, frozen_of_row W _ 1 _ _ h.res⟩
theorem PrAt.told (h : PrAt w g s k W) (a b : Value) : RdAt ((W.setCell ⟨w.heap.size, 0, none⟩ a).setCell ⟨w.heap.size, 1, none⟩ b) g s k ∧ Turns (only g) w ((W.setCell ⟨w.heap.size, 0, none⟩ a).setCell ⟨w.heap.size, 1, none⟩ b) := by
  have hT : Turns (fun i => i = w.heap.size) W ((W.setCell ⟨w.heap.size, 0, none⟩ a).setCell ⟨w.heap.size, 1, none⟩ b) :=
    Turns.trans (S := fun i => i = w.heap.size) (Turns.setCell (fun i => i = w.heap.size) W ⟨w.heap.size, 0, none⟩ a rfl) (Turns.setCell (fun i => i = w.heap.size) _ _ _ rfl) (fun _ h _ => h)
  have := h.lt
  exact ⟨h.rd.turns hT (by omega), h.turns.trans hT (fun i e hi => by omega)⟩
end

set_option maxHeartbeats 1600000 in
theorem paramR_any (s : ByteArray) (i g : Nat) (w : World) (h : RdAt w g s i) (hs : s.size ≤ 100000) (hi : i ≤ s.size) :
    Calls Tryz.prog 169 #[.pointer (some ⟨g, 0, none⟩)] w fun e w' => ParOut (Pm.parN s.data.toList i) w g s e w' := by
  have hl : s.data.toList.length = s.size := by rw [Array.length_toList]; rfl
  have hw := Pm.word_le s.data.toList i (by rw [hl]; exact hi)
  rw [hl] at hw
  have H0 := Hid.mk' (PrAt.made h)
  clear h
  by_cases h0 : Pm.word s.data.toList i = 0
  · have HR : Hid (Pm.parN s.data.toList i = .inl 5) := by unfold Hid Pm.parN; rw [if_pos h0]
    have HT := Hid.mk' (token_no s i g _ H0.out.rd (by omega) hi h0)
    clear h0 hw hl
    go_enter Tryz.func169, Tryz.ntmps169
    go_wp2_with fail
    refine HT.out.mono ?_
    rintro e w2 ⟨he, t2⟩
    unfold gave at he
    subst he
    have T2 := Hid.mk' (H0.out.turns.trans t2 (fun _ h _ => h))
    clear t2
    go_wp2
    exact ⟨rfl, ParOut.no HR.out T2.out⟩
  · have HT := Hid.mk' (token_yes s i g _ H0.out.rd (by omega) hi h0)
    have hx := extract_list s i (Pm.word s.data.toList i)
    have hxz : (s.extract i (i + Pm.word s.data.toList i)).size ≤ s.size := by simp; omega
    have hM : Pm.parN s.data.toList i = if s.data.toList[i + Pm.word s.data.toList i]? = some 61 then (match Pm.val (s.data.toList.drop (i + Pm.word s.data.toList i + 1)) with
        | .inl c => .inl c
        | .inr x => .inr ((Ch.lower (s.extract i (i + Pm.word s.data.toList i)).data.toList, x.1), x.2)) else .inl 5 := by
      unfold Pm.parN; rw [if_neg h0, hx]
    clear hx h0
    generalize Pm.word s.data.toList i = n at *
    generalize s.extract i (i + n) = x at *
    have HLo := Hid.mk' (fun W => lower_any x W (by unfold maxLen; omega))
    generalize Ch.lower x.data.toList = nm at *
    by_cases h61 : s.data.toList[i + n]? = some 61
    · rw [if_pos h61] at hM
      have hlt : i + n < s.size := by
        have := (List.getElem?_eq_some_iff.1 h61).1
        rwa [hl] at this
      have H61 := Hid.mk' h61
      rw [Pm.val_at] at hM
      have hw2 := Pm.word_le s.data.toList (i + n + 1) (by rw [hl]; omega)
      rw [hl] at hw2
      clear h61
      by_cases h34 : s.data.toList[i + n + 1]? = some 34
      · rw [if_pos h34] at hM
        have hlt2 : i + n + 1 < s.size := by
          have := (List.getElem?_eq_some_iff.1 h34).1
          rwa [hl] at this
        have H34 := Hid.mk' h34
        have HQ := Hid.mk' (fun W (hW : RdAt W g s (i + n + 1 + 1)) => quoted_any s (i + n + 1 + 1) g W hW (by omega) (by omega))
        clear h34 hl
        cases hq : Pm.quo [] (s.data.toList.drop (i + n + 1 + 1)) with
        | none =>
          rw [hq] at HQ hM
          have HR := Hid.mk' hM
          clear hM hq
          go_enter Tryz.func169, Tryz.ntmps169
          go_wp2_with fail
          refine HT.out.mono ?_
          rintro e w1 ⟨rfl, h1, t1⟩
          have P1 := Hid.mk' (H0.out.feed h1 t1)
          clear h1 t1 HT H0
          go_wp2_with fail
          refine (HLo.out _).mono ?_
          rintro e w2 ⟨rfl, b2⟩
          have P2 := Hid.mk' (P1.out.keep b2)
          clear b2 P1 HLo
          go_wp2_with fail
          refine (need_yes s _ g 61 _ P2.out.rd (by omega) H61.out).mono ?_
          rintro e w3 ⟨rfl, h1, t1⟩
          have P3 := Hid.mk' (P2.out.feed h1 t1)
          clear h1 t1 P2
          go_wp2_with fail
          refine (skip_yes s _ g 34 _ P3.out.rd (by omega) H34.out).mono ?_
          rintro e w4 ⟨rfl, h1, t1⟩
          have P4 := Hid.mk' (P3.out.feed h1 t1)
          clear h1 t1 P3
          go_wp2_with fail
          refine (HQ.out _ P4.out.rd).mono ?_
          rintro e w5 ⟨t5, he⟩
          simp only [] at he
          unfold gave at he
          subst he
          have T5 := Hid.mk' (P4.out.turns.trans t5 (fun _ h _ => h))
          clear t5
          go_wp2
          exact ⟨rfl, ParOut.no HR.out T5.out⟩
        | some y =>
          obtain ⟨v, r⟩ := y
          rw [hq] at HQ hM
          have HR := Hid.mk' hM
          clear hM hq
          go_enter Tryz.func169, Tryz.ntmps169
          go_wp2_with fail
          refine HT.out.mono ?_
          rintro e w1 ⟨rfl, h1, t1⟩
          have P1 := Hid.mk' (H0.out.feed h1 t1)
          clear h1 t1 HT H0
          go_wp2_with fail
          refine (HLo.out _).mono ?_
          rintro e w2 ⟨rfl, b2⟩
          have P2 := Hid.mk' (P1.out.keep b2)
          clear b2 P1 HLo
          go_wp2_with fail
          refine (need_yes s _ g 61 _ P2.out.rd (by omega) H61.out).mono ?_
          rintro e w3 ⟨rfl, h1, t1⟩
          have P3 := Hid.mk' (P2.out.feed h1 t1)
          clear h1 t1 P2
          go_wp2_with fail
          refine (skip_yes s _ g 34 _ P3.out.rd (by omega) H34.out).mono ?_
          rintro e w4 ⟨rfl, h1, t1⟩
          have P4 := Hid.mk' (P3.out.feed h1 t1)
          clear h1 t1 P3
          go_wp2_with fail
          refine (HQ.out _ P4.out.rd).mono ?_
          rintro e w5 ⟨t5, he⟩
          simp only [] at he
          obtain ⟨rfl, j, hj, h5, hd⟩ := he
          have P5 := Hid.mk' (P4.out.feed h5 t5)
          have HD := Hid.mk' hd
          clear t5 h5 hd P4
          obtain ⟨c0, c1, f0, f1⟩ := P5.out.cells
          have HT2 := Hid.mk' (P5.out.told (.string ⟨nm.toArray⟩) (.string ⟨v.toArray⟩))
          go_wp2
          refine bodyPost_ret (v := .agg #[.string ⟨nm.toArray⟩, .string ⟨v.toArray⟩]) (by simp [results, Tryz.results169, go_sem, c0, c1]) rfl ?_
          exact ParOut.yes HR.out hj HT2.out.1 HD.out HT2.out.2
      · rw [if_neg h34] at hM
        have H34 := Hid.mk' (fun W (hW : RdAt W g s (i + n + 1)) => skip_no s (i + n + 1) g 34 W hW h34)
        clear h34
        by_cases h1 : Pm.word s.data.toList (i + n + 1) = 0
        · rw [if_pos h1] at hM
          have HK := Hid.mk' (fun W (hW : RdAt W g s (i + n + 1)) => token_no s (i + n + 1) g W hW (by omega) (by omega) h1)
          have HR := Hid.mk' hM
          clear hM h1 hl
          go_enter Tryz.func169, Tryz.ntmps169
          go_wp2_with fail
          refine HT.out.mono ?_
          rintro e w1 ⟨rfl, h1, t1⟩
          have P1 := Hid.mk' (H0.out.feed h1 t1)
          clear h1 t1 HT H0
          go_wp2_with fail
          refine (HLo.out _).mono ?_
          rintro e w2 ⟨rfl, b2⟩
          have P2 := Hid.mk' (P1.out.keep b2)
          clear b2 P1 HLo
          go_wp2_with fail
          refine (need_yes s _ g 61 _ P2.out.rd (by omega) H61.out).mono ?_
          rintro e w3 ⟨rfl, h1, t1⟩
          have P3 := Hid.mk' (P2.out.feed h1 t1)
          clear h1 t1 P2
          go_wp2_with fail
          refine (H34.out _ P3.out.rd).mono ?_
          rintro e w4 ⟨rfl, h1, t1⟩
          have P4 := Hid.mk' (P3.out.feed h1 t1)
          clear h1 t1 P3
          go_wp2_with fail
          refine (HK.out _ P4.out.rd).mono ?_
          rintro e w5 ⟨he, t5⟩
          unfold gave at he
          subst he
          have T5 := Hid.mk' (P4.out.turns.trans t5 (fun _ h _ => h))
          clear t5
          go_wp2
          exact ⟨rfl, ParOut.no HR.out T5.out⟩
        · have hy := extract_list s (i + n + 1) (Pm.word s.data.toList (i + n + 1))
          have hyz : (s.extract (i + n + 1) (i + n + 1 + Pm.word s.data.toList (i + n + 1))).size ≤ s.size := by simp; omega
          rw [if_neg h1, ← hy] at hM
          have HK := Hid.mk' (fun W (hW : RdAt W g s (i + n + 1)) => token_yes s (i + n + 1) g W hW (by omega) (by omega) h1)
          have HR := Hid.mk' hM
          clear hM h1 hl hy
          generalize Pm.word s.data.toList (i + n + 1) = m at *
          generalize s.extract (i + n + 1) (i + n + 1 + m) = y at *
          have HCl := Hid.mk' (fun W => sclone_any y W (by omega))
          have hye : (⟨y.data.toList.toArray⟩ : ByteArray) = y := rfl
          go_enter Tryz.func169, Tryz.ntmps169
          go_wp2_with fail
          refine HT.out.mono ?_
          rintro e w1 ⟨rfl, h1, t1⟩
          have P1 := Hid.mk' (H0.out.feed h1 t1)
          clear h1 t1 HT H0
          go_wp2_with fail
          refine (HLo.out _).mono ?_
          rintro e w2 ⟨rfl, b2⟩
          have P2 := Hid.mk' (P1.out.keep b2)
          clear b2 P1 HLo
          go_wp2_with fail
          refine (need_yes s _ g 61 _ P2.out.rd (by omega) H61.out).mono ?_
          rintro e w3 ⟨rfl, h1, t1⟩
          have P3 := Hid.mk' (P2.out.feed h1 t1)
          clear h1 t1 P2
          go_wp2_with fail
          refine (H34.out _ P3.out.rd).mono ?_
          rintro e w4 ⟨rfl, h1, t1⟩
          have P4 := Hid.mk' (P3.out.feed h1 t1)
          clear h1 t1 P3
          go_wp2_with fail
          refine (HK.out _ P4.out.rd).mono ?_
          rintro e w5 ⟨rfl, h1, t1⟩
          have P5 := Hid.mk' (P4.out.feed h1 t1)
          clear h1 t1 P4
          go_wp2_with fail
          refine (HCl.out _).mono ?_
          rintro e w6 ⟨rfl, b6⟩
          have P6 := Hid.mk' (P5.out.keep b6)
          clear b6 P5
          obtain ⟨c0, c1, f0, f1⟩ := P6.out.cells
          have HT2 := Hid.mk' (P6.out.told (.string ⟨nm.toArray⟩) (.string y))
          go_wp2
          refine bodyPost_ret (v := .agg #[.string ⟨nm.toArray⟩, .string y]) (by simp [results, Tryz.results169, go_sem, c0, c1]) rfl ?_
          exact ParOut.yes HR.out (j := i + n + 1 + m) hw2 HT2.out.1 rfl HT2.out.2
    · rw [if_neg h61] at hM
      have HR := Hid.mk' hM
      have HN := Hid.mk' (fun W (hW : RdAt W g s (i + n)) => need_no s (i + n) g 61 W hW h61)
      clear hM h61 hl
      go_enter Tryz.func169, Tryz.ntmps169
      go_wp2_with fail
      refine HT.out.mono ?_
      rintro e w1 ⟨rfl, h1, t1⟩
      have P1 := Hid.mk' (H0.out.feed h1 t1)
      clear h1 t1 HT H0
      go_wp2_with fail
      refine (HLo.out _).mono ?_
      rintro e w2 ⟨rfl, b2⟩
      have P2 := Hid.mk' (P1.out.keep b2)
      clear b2 P1 HLo
      go_wp2_with fail
      refine (HN.out _ P2.out.rd).mono ?_
      rintro e w3 ⟨he, t3⟩
      unfold gave at he
      subst he
      have T3 := Hid.mk' (P2.out.turns.trans t3 (fun _ h _ => h))
      clear t3
      go_wp2
      exact ⟨rfl, ParOut.no HR.out T3.out⟩
end Go.Proofs.YtdclmpdjjkjfjaaGreatDoor

/- Package params, walked: find, by a closure. -/
namespace Go.Proofs.YtdclmpdjjkjfjaaGreatDoor
open Go.RowKit

/-- where the first parameter of that name stands -/
def ParIs (l : List (ByteArray × ByteArray)) (nm : ByteArray) (r : Int) : Prop :=
  (r = -1 ∧ ∀ p ∈ l, p.1.data.toList ≠ nm.data.toList) ∨ ∃ k, ∃ h : k < l.length, r = k ∧ l[k].1.data.toList = nm.data.toList ∧ ∀ p ∈ l.take k, p.1.data.toList ≠ nm.data.toList

theorem findOne_any (n v nm : ByteArray) (b : Nat) (w : World) (hc : w.cell? ⟨b, 0, none⟩ = some (.string nm)) :
    Calls Tryz.prog 198 #[.agg #[.string n, .string v], .pointer (some ⟨b, 0, none⟩)] w fun e w' => e = .returned (.bool (decide (n.data.toList = nm.data.toList))) ∧ w' = w.alloc (.cells #[.string n, .string v] 133) := by
  have hst := same_text n nm
  have hb : b < w.heap.size := World.block_lt_of_cell? w _ hc
  have hc' : (w.alloc (.cells #[.string n, .string v] 133)).cell? ⟨b, 0, none⟩ = some (.string nm) := by
    rw [((Below.refl w.heap.size w).alloc (Nat.le_refl _) _).cell (p := ⟨b, 0, none⟩) hb]; exact hc
  generalize decide (n.data.toList = nm.data.toList) = t at hst
  go_enter Tryz.func198, Tryz.ntmps198
  go_wp2
  go_ret
  exact ⟨by rw [← hst]; rfl, rfl⟩

set_option maxHeartbeats 1600000 in
theorem indexFunc_any (l : List (ByteArray × ByteArray)) (nm : ByteArray) (ao : Option Addr) (cap n b : Nat) (w : World) (hl : IsV w ao cap n (pairV l)) (hn : l.length = n) (hN : n ≤ 1000000) (hc : w.cell? ⟨b, 0, none⟩ = some (.string nm)) :
    Calls Tryz.prog 197 #[.slice ao n cap, .func (.func 198) #[] #[.pointer (some ⟨b, 0, none⟩)]] w fun e w' => ∃ r : Int, e = .returned (.int .i64 r) ∧ ParIs l nm r ∧ Below w.heap.size w w' := by
  subst hn
  have H := Hid.mk' hl
  have HC := Hid.mk' hc
  have hcap := hl.1
  have hb : b < w.heap.size := World.block_lt_of_cell? w _ hc
  clear hl hc
  go_enter Tryz.func197, Tryz.ntmps197
  go_wp2
  go_loopw [8] (fun t wr => ∃ k : Nat, k ≤ l.length ∧ t = .int .i64 k ∧ Below w.heap.size w wr ∧ ∀ p ∈ l.take k, p.1.data.toList ≠ nm.data.toList) (fun t _ => l.length - (intOf t).toNat)
  case atStart => exact ⟨0, Nat.zero_le _, rfl, Below.refl _ _, fun p hp => by simp at hp⟩
  case round =>
    obtain ⟨k, hk, rfl, hB, hno⟩ := hrel
    have HB := Hid.mk' hB
    have HN := Hid.mk' hno
    clear hB hno
    by_cases hlt : k < l.length
    · obtain ⟨bb, oo, rfl, hcs⟩ := (H.out.stay HB.out).lit (by rw [pairV_length]; omega)
      have hc0 := hcs _ _ (pairV_at l k hlt).1
      have hc1 : wr.cell? ⟨bb, oo + k * 2 + 1, none⟩ = some (.string l[k].2) := by
        have := hcs _ _ (pairV_at l k hlt).2
        rwa [← Nat.add_assoc] at this
      clear hcs
      have hlt' : (k : Int) < l.length := by omega
      have HT : Hid (l.take (k + 1) = l.take k ++ [l[k]]) := List.take_succ_eq_append_getElem hlt
      have HF := Hid.mk' (findOne_any l[k].1 l[k].2 nm b wr (by rw [HB.out.cell (p := ⟨b, 0, none⟩) hb]; exact HC.out))
      have HB2 : Hid (Below w.heap.size w (wr.alloc (.cells #[.string l[k].1, .string l[k].2] 133))) := HB.out.alloc HB.out.size _
      by_cases he : l[k].1.data.toList = nm.data.toList
      · rw [decide_eq_true he] at HF
        have HR : Hid (ParIs l nm k) := Or.inr ⟨k, hlt, rfl, he, HN.out⟩
        clear he HN HT
        generalize l[k] = p at *
        go_wp2_with fail
        refine HF.out.mono ?_
        rintro e w1 ⟨rfl, hw⟩
        have HB3 : Hid (Below w.heap.size w w1) := by rw [hw]; exact HB2.out
        clear hw HB2
        go_wp2
        go_ret
        exact ⟨k, rfl, HR.out, HB3.out⟩
      · rw [decide_eq_false he] at HF
        have HE := Hid.mk' he
        clear he
        generalize l[k] = p at *
        go_wp2_with fail
        refine HF.out.mono ?_
        rintro e w1 ⟨rfl, hw⟩
        have HB3 : Hid (Below w.heap.size w w1) := by rw [hw]; exact HB2.out
        clear hw HB2
        go_wp2
        go_roundw
        case rel =>
          refine ⟨k + 1, by omega, by go_num, HB3.out, fun r hr => ?_⟩
          rw [HT.out, List.mem_append] at hr
          rcases hr with hr | hr
          · exact HN.out r hr
          · rw [List.mem_singleton] at hr; subst hr; exact HE.out
        case measure => simp [intOf]; omega
    · obtain rfl : k = l.length := by omega
      have HR : Hid (ParIs l nm (-1)) := Or.inl ⟨rfl, fun p hp => HN.out p (by rw [List.take_length]; exact hp)⟩
      clear HN
      go_wp2
      go_ret
      exact ⟨-1, rfl, HR.out, HB.out⟩

set_option maxHeartbeats 800000 in
theorem findR_any (l : List (ByteArray × ByteArray)) (nm : ByteArray) (ao : Option Addr) (cap n : Nat) (w : World) (hl : IsV w ao cap n (pairV l)) (hn : l.length = n) (hN : n ≤ 1000000) :
    Calls Tryz.prog 188 #[.slice ao n cap, .string nm] w fun e w' => ∃ r : Int, e = .returned (.int .i64 r) ∧ ParIs l nm r ∧ Below w.heap.size w w' := by
  have hB : Below w.heap.size w (w.alloc (.cells #[.string nm] 9)) := (Below.refl _ _).alloc (Nat.le_refl _) _
  have HI := Hid.mk' (indexFunc_any l nm ao cap n w.heap.size (w.alloc (.cells #[.string nm] 9)) (hl.stay hB) hn hN (World.cell?_alloc_mark w _ _ _ 0))
  have HB := Hid.mk' hB
  have hmf : ∀ (fn : Fn) (first cap : Array Value) (w : World), (Instr.makeFunc fn first cap).run Tryz.prog w = .ok (.func fn first cap) w := fun _ _ _ _ => rfl
  clear hl hB
  go_enter Tryz.func188, Tryz.ntmps188
  go_wp2_with fail
  refine HI.out.mono ?_
  rintro e w1 ⟨r, rfl, hf, hb⟩
  have HF := Hid.mk' hf
  have HB1 := Hid.mk' (then_ HB.out hb)
  clear hf hb
  go_wp2
  go_ret
  exact ⟨r, rfl, HF.out, HB1.out⟩

end Go.Proofs.YtdclmpdjjkjfjaaGreatDoor

/- Package params, walked: admit. -/
namespace Go.Proofs.YtdclmpdjjkjfjaaGreatDoor
open Go.RowKit

set_option maxHeartbeats 800000 in
theorem admit_ok (l : List (ByteArray × ByteArray)) (nm v : ByteArray) (ao : Option Addr) (cap n : Nat) (w : World) (hl : IsV w ao cap n (pairV l)) (hn : l.length = n) (hN : n < 8) (hno : ∀ p ∈ l, p.1.data.toList ≠ nm.data.toList) :
    Calls Tryz.prog 170 #[.agg #[.string nm, .string v], .slice ao n cap] w fun e w' => e = .returned (.tuple #[]) ∧ Below w.heap.size w w' := by
  have hB : Below w.heap.size w (w.alloc (.cells #[.string nm, .string v] 133)) := (Below.refl _ _).alloc (Nat.le_refl _) _
  have HI := Hid.mk' (findR_any l nm ao cap n (w.alloc (.cells #[.string nm, .string v] 133)) (hl.stay hB) hn (by omega))
  have HB := Hid.mk' hB
  have HNo := Hid.mk' hno
  have t8 : decide ((n : Int) ≥ 8) = false := by rw [decide_eq_false_iff_not]; omega
  clear hl hB hno
  go_enter Tryz.func170, Tryz.ntmps170
  go_wp2_with fail
  refine HI.out.mono ?_
  rintro e w1 ⟨r, rfl, hf, hb⟩
  have HB1 := Hid.mk' (then_ HB.out hb)
  obtain rfl : r = -1 := by
    rcases hf with ⟨e, _⟩ | ⟨k, h, _, e, _⟩
    · exact e
    · exact absurd e (HNo.out _ (List.getElem_mem h))
  clear hf hb
  go_wp2
  go_end0
  exact ⟨rfl, HB1.out⟩
set_option maxHeartbeats 800000 in
theorem admit_many (l : List (ByteArray × ByteArray)) (nm v : ByteArray) (ao : Option Addr) (cap n : Nat) (w : World) (hl : IsV w ao cap n (pairV l)) (hn : l.length = n) (hN : 8 ≤ n) (hN2 : n ≤ 1000000) (hno : ∀ p ∈ l, p.1.data.toList ≠ nm.data.toList) :
    Calls Tryz.prog 170 #[.agg #[.string nm, .string v], .slice ao n cap] w fun e w' => e = gave 8 ∧ Below w.heap.size w w' := by
  have hB : Below w.heap.size w (w.alloc (.cells #[.string nm, .string v] 133)) := (Below.refl _ _).alloc (Nat.le_refl _) _
  have HI := Hid.mk' (findR_any l nm ao cap n (w.alloc (.cells #[.string nm, .string v] 133)) (hl.stay hB) hn (by omega))
  have HB := Hid.mk' hB
  have HNo := Hid.mk' hno
  have t8 : decide ((n : Int) ≥ 8) = true := by rw [decide_eq_true_eq]; omega
  clear hl hB hno
  go_enter Tryz.func170, Tryz.ntmps170
  go_wp2_with fail
  refine HI.out.mono ?_
  rintro e w1 ⟨r, rfl, hf, hb⟩
  have HB1 := Hid.mk' (then_ HB.out hb)
  obtain rfl : r = -1 := by
    rcases hf with ⟨e, _⟩ | ⟨k, h, _, e, _⟩
    · exact e
    · exact absurd e (HNo.out _ (List.getElem_mem h))
  clear hf hb
  go_wp2
  exact ⟨rfl, rfl, HB1.out⟩
set_option maxHeartbeats 800000 in
theorem admit_twice (l : List (ByteArray × ByteArray)) (nm v : ByteArray) (ao : Option Addr) (cap n : Nat) (w : World) (hl : IsV w ao cap n (pairV l)) (hn : l.length = n) (hN : n ≤ 8) (hy : ∃ p ∈ l, p.1.data.toList = nm.data.toList) :
    Calls Tryz.prog 170 #[.agg #[.string nm, .string v], .slice ao n cap] w fun e w' => e = gave 9 ∧ Below w.heap.size w w' := by
  have hB : Below w.heap.size w (w.alloc (.cells #[.string nm, .string v] 133)) := (Below.refl _ _).alloc (Nat.le_refl _) _
  have HI := Hid.mk' (findR_any l nm ao cap n (w.alloc (.cells #[.string nm, .string v] 133)) (hl.stay hB) hn (by omega))
  have HB := Hid.mk' hB
  have HNo := Hid.mk' hy
  clear hl hB hy
  go_enter Tryz.func170, Tryz.ntmps170
  go_wp2_with fail
  refine HI.out.mono ?_
  rintro e w1 ⟨r, rfl, hf, hb⟩
  have HB1 := Hid.mk' (then_ HB.out hb)
  have h0 : 0 ≤ r := by
    rcases hf with ⟨_, hn⟩ | ⟨k, h, rfl, _, _⟩
    · obtain ⟨p, hp, e⟩ := HNo.out
      exact absurd e (hn p hp)
    · omega
  have t0 : decide (r ≥ 0) = true := by rw [decide_eq_true_eq]; exact h0
  clear hf hb
  go_wp2
  exact ⟨rfl, rfl, HB1.out⟩
end Go.Proofs.YtdclmpdjjkjfjaaGreatDoor

/- Package params, walked: a reader's media. -/
namespace Go.Proofs.YtdclmpdjjkjfjaaGreatDoor
open Go.RowKit

theorem Pm.val_short {r v r' : List UInt8} (h : Pm.val r = .inr (v, r')) : r'.length ≤ r.length := by
  unfold Pm.val at h
  split at h
  · split at h
    · cases h
    · rename_i x hq
      injection h with h; subst h
      have := (Pm.quo_short _ _ _ _ _ (Nat.le_refl _) hq).1
      rw [List.length_tail] at this
      omega
  · split at h
    · cases h
    · injection h with h; injection h with _ h2
      subst h2
      exact (List.dropWhile_suffix (l := r) Pm.tok).length_le
theorem Pm.par_short {r r' : List UInt8} {p : Pm.Par} (h : Pm.par r = .inr (p, r')) : r'.length < r.length := by
  unfold Pm.par at h
  split at h
  · rename_i h59
    simp only [] at h
    split at h
    · cases h
    · split at h
      · split at h
        · cases h
        · rename_i x hv
          injection h with h; injection h with _ e2
          subst e2
          have h1 := Pm.val_short (v := x.1) (r' := x.2) hv
          rw [List.length_tail] at h1
          have h2 := (List.dropWhile_suffix (l := r.tail.dropWhile Pm.blank) Pm.tok).length_le
          have h3 := (List.dropWhile_suffix (l := r.tail) Pm.blank).length_le
          rw [List.length_tail] at h3
          cases r with
          | nil => simp at h59
          | cons a t =>
            rw [List.length_cons] at *
            omega
      · cases h
  · cases h
/-- a word, and all its parameters, at a place -/
def Pm.medN (l : List UInt8) (i : Nat) : Nat ⊕ (List UInt8 × List Pm.Par) := match Pm.wrdN l (Pm.blanks l i) with
  | .inl c => .inl c
  | .inr x => Pm.fin (l.length + 1) x.1 (l.drop x.2) []
theorem Pm.media_N (l : List UInt8) (hv : Ch.isVisible l = true) : Pm.media l = Pm.medN l 0 := by
  rw [Pm.media_at l hv _ _ rfl rfl]
  unfold Pm.medN Pm.wrdN
  by_cases h0 : Pm.word l (Pm.blanks l 0) = 0
  · rw [if_pos h0, if_pos h0]
  · rw [if_neg h0, if_neg h0]
    by_cases h47 : l[Pm.blanks l 0 + Pm.word l (Pm.blanks l 0)]? = some 47
    · rw [if_pos h47, if_pos h47]
      by_cases h1 : Pm.word l (Pm.blanks l 0 + Pm.word l (Pm.blanks l 0) + 1) = 0
      · rw [if_pos h1, if_pos h1]
      · rw [if_neg h1, if_neg h1]
    · rw [if_neg h47, if_neg h47]
/-- what is told of a value -/
def MdOut (m : Nat ⊕ (List UInt8 × List Pm.Par)) (w : World) (g : Nat) (e : Ending) (w' : World) : Prop := match m with
  | .inl c => e = gave c ∧ Turns (only g) w w'
  | .inr x => ∃ word ps ao cap, e = .returned (.agg #[.string word, .slice ao ps.length cap]) ∧ word.data.toList = x.1 ∧ parL ps = x.2 ∧ OwnV w' w.heap.size 133 2 ao cap ps.length (pairV ps) ∧ Turns (only g) w w'
theorem MdOut.no {m : Nat ⊕ (List UInt8 × List Pm.Par)} {w w' : World} {g c : Nat} (hm : m = .inl c) (ht : Turns (only g) w w') : MdOut m w g (gave c) w' := by
  subst hm; exact ⟨rfl, ht⟩
/-- a reader, the value that grows, and beside them the answer's place -/
structure MdAt (w : World) (g mb : Nat) (s : ByteArray) (k : Nat) (word : ByteArray) (ps : List (ByteArray × ByteArray)) (ao : Option Addr) (cap : Nat) (wr : World) : Prop where
  res : wr.heap[w.heap.size]? = some (.cells #[.string ⟨#[]⟩, .slice none 0 0] 113 (0, 0))
  med : wr.heap[mb]? = some (.cells #[.string word, .slice ao ps.length cap] 113 (0, 0))
  own : OwnV wr w.heap.size 133 2 ao cap ps.length (pairV ps)
  rd : RdAt wr g s k
  turns : Turns (only g) w wr
  lt : g < w.heap.size
  mb_ : w.heap.size < mb
section
variable {w wr w1 w3 : World} {g mb k k' : Nat} {s word : ByteArray} {ps ps' : List (ByteArray × ByteArray)} {ao ao' : Option Addr} {cap cap' : Nat}
theorem MdAt.mlt (h : MdAt w g mb s k word ps ao cap wr) : mb < wr.heap.size := (Array.getElem?_eq_some_iff.1 h.med).1
theorem MdAt.apart (h : MdAt w g mb s k word ps ao cap wr) (a : Addr) (e : ao = some a) : a.block ≠ w.heap.size ∧ a.block ≠ mb := by
  have h1 := row_ne h.res h.own (by decide)
  have h2 := row_ne h.med h.own (by decide)
  rw [ownBlock_slice, e] at h1 h2
  exact ⟨fun e => h1 (by simp [blockOf, e]), fun e => h2 (by simp [blockOf, e])⟩
theorem MdAt.feed (h : MdAt w g mb s k word ps ao cap wr) (h1 : RdAt w1 g s k') (h2 : Turns (only g) wr w1) : MdAt w g mb s k' word ps ao cap w1 := by
  have hl := h.lt
  have hm := h.mb_
  exact ⟨h2.row h.res (fun e => by unfold only at e; omega), h2.row h.med (fun e => by unfold only at e; omega), h.own.turns h2 (fun a e e2 => by have := (h.own.block a e).1; unfold only at e2; omega), h1, h.turns.trans h2 (fun _ h _ => h), hl, hm⟩
theorem MdAt.keep (h : MdAt w g mb s k word ps ao cap wr) (hb : Below wr.heap.size wr w1) : MdAt w g mb s k word ps ao cap w1 := h.feed (h.rd.keep hb) (Turns.of_below hb)
theorem MdAt.cells (h : MdAt w g mb s k word ps ao cap wr) : wr.cell? ⟨w.heap.size, 0, none⟩ = some (.string ⟨#[]⟩) ∧ wr.cell? ⟨w.heap.size, 1, none⟩ = some (.slice none 0 0) ∧ wr.frozen? ⟨w.heap.size, 0, none⟩ = false ∧ wr.frozen? ⟨w.heap.size, 1, none⟩ = false ∧
    wr.cell? ⟨mb, 0, none⟩ = some (.string word) ∧ wr.cell? ⟨mb, 1, none⟩ = some (.slice ao ps.length cap) ∧ wr.frozen? ⟨mb, 0, none⟩ = false ∧ wr.frozen? ⟨mb, 1, none⟩ = false :=
  ⟨cell_of_row wr _ 0 _ _ _ h.res, cell_of_row wr _ 1 _ _ _ h.res, frozen_of_row wr _ 0 _ _ h.res, frozen_of_row wr _ 1 _ _ h.res, cell_of_row wr _ 0 _ _ _ h.med, cell_of_row wr _ 1 _ _ _ h.med, frozen_of_row wr _ 0 _ _ h.med, frozen_of_row wr _ 1 _ _ h.med⟩
/-- what an append may turn -/
theorem MdAt.grows (h : MdAt w g mb s k word ps ao cap wr) (ob : Obj) (hG : (wr.alloc ob).grownBy w3 (blockOf ao)) : Turns (fun i => w.heap.size ≤ i ∧ i ≠ w.heap.size ∧ i ≠ mb) wr w3 :=
  (Turns.of_grown (World.grownBy_alloc wr ob none) (fun k e => by cases e)).trans (Turns.of_grown (S := fun i => w.heap.size ≤ i ∧ i ≠ w.heap.size ∧ i ≠ mb) hG (fun i e => by
    cases ao with
    | none => simp [blockOf] at e
    | some a => simp only [blockOf, Option.some.injEq] at e; subst e; exact ⟨(h.own.block a rfl).1, (h.apart a rfl).1, (h.apart a rfl).2⟩)) (fun _ h _ => h)
/-- its parameters are laid anew -/
theorem MdAt.pars (h : MdAt w g mb s k word ps ao cap wr) (ho : OwnV w3 w.heap.size 133 2 ao' cap' ps'.length (pairV ps')) (ht : Turns (fun i => w.heap.size ≤ i ∧ i ≠ w.heap.size ∧ i ≠ mb) wr w3) (n : Nat) (hn : n = ps'.length) : MdAt w g mb s k word ps' ao' cap' (w3.setCell ⟨mb, 1, none⟩ (.slice ao' n cap')) := by
  subst hn
  have hl := h.lt
  have hm := h.mb_
  have hr := ht.row h.res (fun e => e.2.1 rfl)
  have hd := ht.row h.med (fun e => e.2.2 rfl)
  have hg := h.rd.turns ht (fun e => by omega)
  have hne : ∀ a, ao' = some a → a.block ≠ mb := fun a e => by
    have h2 := row_ne hd ho (by decide)
    rw [ownBlock_slice, e] at h2
    exact fun e => h2 (by simp [blockOf, e])
  have hS := Turns.setCell (fun i => i = mb) w3 ⟨mb, 1, none⟩ (.slice ao' ps'.length cap') rfl
  refine ⟨hS.row hr (by omega), ?_, ho.turns hS (fun a e e2 => hne a e e2), hg.turns hS (by omega), (h.turns.trans ht (fun i e hi => by omega)).trans hS (fun i e hi => by omega), hl, hm⟩
  rw [heap_setCell_same w3 mb 1 _ _ _ hd]; rfl
/-- a value in a new block -/
theorem MdAt.start (hr : wr.heap[w.heap.size]? = some (.cells #[.string ⟨#[]⟩, .slice none 0 0] 113 (0, 0))) (h : RdAt wr g s k) (ht : Turns (only g) w wr) (hl : g < w.heap.size) (x : ByteArray) : MdAt w g wr.heap.size s k x [] none 0 (wr.alloc (.cells #[.string x, .slice none 0 0] 113)) := by
  have hb : Below wr.heap.size wr (wr.alloc (.cells #[.string x, .slice none 0 0] 113)) := (Below.refl _ _).alloc (Nat.le_refl _) _
  have hz := (Array.getElem?_eq_some_iff.1 hr).1
  exact ⟨(hb.block _ hz).trans hr, heap_alloc_new wr _, OwnV.nil _ _ _ _, h.keep hb, ht.trans (S' := only g) (Turns.of_below hb) (fun _ h _ => h), hl, hz⟩
/-- what is told at last -/
theorem MdAt.told (h : MdAt w g mb s k word ps ao cap wr) (a b : Value) : OwnV ((wr.setCell ⟨w.heap.size, 0, none⟩ a).setCell ⟨w.heap.size, 1, none⟩ b) w.heap.size 133 2 ao cap ps.length (pairV ps) ∧ Turns (only g) w ((wr.setCell ⟨w.heap.size, 0, none⟩ a).setCell ⟨w.heap.size, 1, none⟩ b) := by
  have hT : Turns (fun i => i = w.heap.size) wr ((wr.setCell ⟨w.heap.size, 0, none⟩ a).setCell ⟨w.heap.size, 1, none⟩ b) :=
    Turns.trans (S := fun i => i = w.heap.size) (Turns.setCell (fun i => i = w.heap.size) wr ⟨w.heap.size, 0, none⟩ a rfl) (Turns.setCell (fun i => i = w.heap.size) _ _ _ rfl) (fun _ h _ => h)
  exact ⟨h.own.turns hT (fun a e e2 => (h.apart a e).1 e2), h.turns.trans hT (fun i e hi => by omega)⟩
end
end Go.Proofs.YtdclmpdjjkjfjaaGreatDoor

/- Package params, walked: a reader's media, its walk. -/
namespace Go.Proofs.YtdclmpdjjkjfjaaGreatDoor
open Go.RowKit

theorem parL_any' {ps : List (ByteArray × ByteArray)} {nm : List UInt8} (h : ((parL ps).any fun q => q.1 == nm) = true) : ∃ p ∈ ps, p.1.data.toList = nm := by
  rw [List.any_eq_true] at h
  obtain ⟨q, hq, e⟩ := h
  obtain ⟨p, hp, rfl⟩ := List.mem_map.1 hq
  exact ⟨p, hp, by simpa using e⟩
theorem parL_none' {ps : List (ByteArray × ByteArray)} {nm : List UInt8} (h : ¬ ((parL ps).any fun q => q.1 == nm) = true) : ∀ p ∈ ps, p.1.data.toList ≠ nm := by
  intro p hp e
  exact h (List.any_eq_true.2 ⟨_, List.mem_map.2 ⟨p, hp, rfl⟩, by simp [e]⟩)

set_option maxRecDepth 100000 in
set_option maxHeartbeats 3200000 in
theorem mediaR_any (s : ByteArray) (g : Nat) (w : World) (h : RdAt w g s 0) (hs : s.size ≤ 100000) :
    Calls Tryz.prog 151 #[.pointer (some ⟨g, 0, none⟩)] w fun e w' => MdOut (Pm.medN s.data.toList 0) w g e w' := by
  have hl : s.data.toList.length = s.size := by rw [Array.length_toList]; rfl
  have HL := Hid.mk' hl
  have hlt := h.lt
  have hb0 := Pm.blanks_le s.data.toList 0 (Nat.zero_le _)
  rw [hl] at hb0
  have hB : Below w.heap.size w (w.alloc (.cells #[.string ⟨#[]⟩, .slice none 0 0] 113)) := (Below.refl _ _).alloc (Nat.le_refl _) _
  have R0 : Hid ((w.alloc (.cells #[.string ⟨#[]⟩, .slice none 0 0] 113)).heap[w.heap.size]? = some (.cells #[.string ⟨#[]⟩, .slice none 0 0] 113 (0, 0))) := heap_alloc_new w _
  have HB := Hid.mk' (blanksR_any s 0 g _ (h.keep hB) (by omega) (Nat.zero_le _))
  have T0 := Hid.mk' (Turns.of_below (S := only g) hB)
  have HW := Hid.mk' (fun W (hW : RdAt W g s (Pm.blanks s.data.toList 0)) => wordR_any s (Pm.blanks s.data.toList 0) g W hW (by omega) hb0)
  have hM : Pm.medN s.data.toList 0 = match Pm.wrdN s.data.toList (Pm.blanks s.data.toList 0) with
    | .inl c => .inl c
    | .inr x => Pm.fin (s.data.toList.length + 1) x.1 (s.data.toList.drop x.2) [] := rfl
  clear hB h hl
  cases hm : Pm.wrdN s.data.toList (Pm.blanks s.data.toList 0) with
  | inl c =>
    rw [hm] at HW hM
    have HM := Hid.mk' hM
    clear hM hm
    go_enter Tryz.func151, Tryz.ntmps151
    go_wp2_with fail
    refine HB.out.mono ?_
    rintro e w1 ⟨rfl, h1, t1⟩
    have T1 := Hid.mk' (T0.out.trans t1 (fun _ h _ => h))
    have R1 := Hid.mk' h1
    clear t1 h1 T0
    go_wp2_with fail
    refine (HW.out _ R1.out).mono ?_
    rintro e w2 ⟨he, t2⟩
    unfold gave at he
    subst he
    have T2 := Hid.mk' (T1.out.trans t2 (fun _ h _ => h))
    clear t2
    go_wp2
    exact ⟨rfl, MdOut.no HM.out T2.out⟩
  | inr x =>
    obtain ⟨wo, i1⟩ := x
    rw [hm] at HW hM
    simp only [] at hM
    have HM := Hid.mk' hM
    clear hM hm
    go_enter Tryz.func151, Tryz.ntmps151
    go_wp2_with fail
    refine HB.out.mono ?_
    rintro e w1 ⟨rfl, h1, t1⟩
    have T1 := Hid.mk' (T0.out.trans t1 (fun _ h _ => h))
    have R1 := Hid.mk' h1
    have S1 := Hid.mk' (t1.row R0.out (fun e => by unfold only at e; omega))
    clear t1 h1 T0 HB R0
    go_wp2_with fail
    refine (HW.out _ R1.out).mono ?_
    rintro e w2 ⟨rfl, hi1, h2, t2⟩
    simp only [] at hi1 h2
    have T2 := Hid.mk' (T1.out.trans t2 (fun _ h _ => h))
    have S2 := Hid.mk' (t2.row S1.out (fun e => by unfold only at e; omega))
    have HA2 := Hid.mk' (MdAt.start S2.out h2 T2.out hlt ⟨wo.toArray⟩)
    clear t2 h2 T1 S1 S2 T2 HW R1
    have hwo : (⟨wo.toArray⟩ : ByteArray).data.toList = wo := rfl
    have HWo := Hid.mk' hwo
    clear hwo
    generalize (⟨wo.toArray⟩ : ByteArray) = wb at *
    go_wp2_with fail
    refine (blanksR_any s i1 g _ HA2.out.rd (by omega) hi1).mono ?_
    rintro e w3 ⟨rfl, h3, t3⟩
    have HA3 := Hid.mk' (HA2.out.feed h3 t3)
    clear h3 t3 HA2
    go_wp2
    go_loopw [] (fun wr => ∃ (i f : Nat) (ps : List (ByteArray × ByteArray)) (ao : Option Addr) (cap : Nat), i ≤ s.size ∧ MdAt w g w2.heap.size s (Pm.blanks s.data.toList i) wb ps ao cap wr ∧ s.size < f + i ∧ ps.length ≤ 8 ∧ Pm.medN s.data.toList 0 = Pm.fin f wo (s.data.toList.drop i) (parL ps)) (fun wr => s.size - atOf wr g)
    case atStart => exact ⟨i1, s.size + 1, [], none, 0, hi1, HA3.out, by omega, by simp, by have := HM.out; rw [HL.out] at this; exact this⟩
    case round =>
      clear HA3 HM hi1
      obtain ⟨i, f, ps, ao, cap, hi, hA, hf, h8, hM⟩ := hrel
      obtain ⟨f', rfl⟩ : ∃ f', f = f' + 1 := ⟨f - 1, by omega⟩
      rw [Pm.fin_at s.data.toList f' i _ _ (by rw [HL.out]; exact hi), HL.out] at hM
      have hb1 := Pm.blanks_le s.data.toList i (by rw [HL.out]; exact hi)
      have hb2 := Pm.blanks_ge s.data.toList i
      rw [HL.out] at hb1
      generalize Pm.blanks s.data.toList i = b at *
      have HA := Hid.mk' hA
      have HAt := Hid.mk' hA.rd.atOf
      have HM := Hid.mk' hM
      have HMo := Hid.mk' (more_any s b g wr hA.rd)
      clear hM hA
      by_cases hend : b = s.size
      · subst hend
        have t1 : decide (s.size < s.size) = false := by rw [decide_eq_false_iff_not]; omega
        rw [t1] at HMo
        have HR : Hid (Pm.medN s.data.toList 0 = .inr (wo, parL ps)) := by have := HM.out; rw [if_pos rfl] at this; exact this
        clear HM t1
        go_wp2_with fail
        refine HMo.out.mono ?_
        rintro e w4 ⟨rfl, q, hw⟩
        have HA4 : Hid (MdAt w g w2.heap.size s s.size wb ps ao cap w4) := by rw [hw]; exact HA.out.keep (drewN_below ⟨q, rfl⟩)
        clear hw HA HMo
        obtain ⟨c0, c1, f0, f1, d0, d1, g0, g1⟩ := HA4.out.cells
        have HT := Hid.mk' (HA4.out.told (.string wb) (.slice ao ps.length cap))
        go_wp2
        refine bodyPost_ret (v := .agg #[.string wb, .slice ao ps.length cap]) (by simp [results, Tryz.results151, go_sem, c0, c1]) rfl ?_
        rw [HR.out]
        exact ⟨wb, ps, ao, cap, rfl, HWo.out, rfl, HT.out.1, HT.out.2⟩
      · have hlt1 : b < s.size := by omega
        have t1 : decide (b < s.size) = true := by rw [decide_eq_true_eq]; omega
        rw [t1] at HMo
        have hM := HM.out
        rw [if_neg hend] at hM
        clear HM t1 hend
        go_wp2_with fail
        refine HMo.out.mono ?_
        rintro e w4 ⟨rfl, q, hw⟩
        have HA4 : Hid (MdAt w g w2.heap.size s b wb ps ao cap w4) := by rw [hw]; exact HA.out.keep (drewN_below ⟨q, rfl⟩)
        clear hw HA HMo
        by_cases h59 : s.data.toList[b]? = some 59
        · have hp0 := Pm.par_N s.data.toList b
          rw [if_pos h59] at hp0
          have hsh := fun p r' => Pm.par_short (r := s.data.toList.drop b) (r' := r') (p := p)
          rw [hp0] at hM hsh
          have H59 := Hid.mk' h59
          have HSh := Hid.mk' hsh
          have hb3 := Pm.blanks_le s.data.toList (b + 1) (by rw [HL.out]; omega)
          rw [HL.out] at hb3
          clear hp0 h59 hsh
          go_wp2_with fail
          refine (need_yes s b g 59 _ HA4.out.rd (by omega) H59.out).mono ?_
          rintro e w5 ⟨rfl, h5, t5⟩
          have HA5 := Hid.mk' (HA4.out.feed h5 t5)
          clear h5 t5 HA4
          go_wp2_with fail
          refine (blanksR_any s (b + 1) g _ HA5.out.rd (by omega) (by omega)).mono ?_
          rintro e w6 ⟨rfl, h6, t6⟩
          have HA6 := Hid.mk' (HA5.out.feed h6 t6)
          clear h6 t6 HA5
          generalize Pm.blanks s.data.toList (b + 1) = i2 at *
          have HP := Hid.mk' (paramR_any s i2 g w6 HA6.out.rd hs hb3)
          cases hp : Pm.parN s.data.toList i2 with
          | inl c =>
            rw [hp] at hM HP
            have HR := Hid.mk' hM
            clear hM hp HSh
            go_wp2_with fail
            refine HP.out.mono ?_
            rintro e w7 ⟨he, t7⟩
            unfold gave at he
            subst he
            have T7 := Hid.mk' (HA6.out.turns.trans t7 (fun _ h _ => h))
            clear t7
            go_wp2
            exact ⟨rfl, MdOut.no HR.out T7.out⟩
          | inr y =>
            obtain ⟨⟨n, v⟩, r⟩ := y
            rw [hp] at hM HP
            simp only [] at hM
            have hsh := HSh.out _ _ hp
            rw [List.length_drop, HL.out] at hsh
            clear hp HSh
            go_wp2_with fail
            refine HP.out.mono ?_
            rintro e w7 ⟨rfl, ⟨j, hj, h7, hd⟩, t7⟩
            simp only [] at hd
            subst hd
            rw [List.length_drop, HL.out] at hsh
            have hjb : b < j := by omega
            have HA7 := Hid.mk' (HA6.out.feed h7 t7)
            clear t7 h7 hsh HA6 HP
            have hnb : (⟨n.toArray⟩ : ByteArray).data.toList = n := rfl
            have hvb : (⟨v.toArray⟩ : ByteArray).data.toList = v := rfl
            generalize (⟨n.toArray⟩ : ByteArray) = nb at *
            generalize (⟨v.toArray⟩ : ByteArray) = vb at *
            subst hnb; subst hvb
            have hBp : Below w7.heap.size w7 (w7.alloc (.cells #[.string nb, .string vb] 133)) := (Below.refl _ _).alloc (Nat.le_refl _) _
            have HA8 := Hid.mk' (HA7.out.keep hBp)
            have HPb : Hid ((w7.alloc (.cells #[.string nb, .string vb] 133)).heap[w7.heap.size]? = some (.cells #[.string nb, .string vb] 133 (0, 0))) := heap_alloc_new w7 _
            clear hBp HA7
            obtain ⟨c0, c1, f0, f1, d0, d1, g0, g1⟩ := HA8.out.cells
            by_cases h9 : ((parL ps).any fun q => q.1 == nb.data.toList) = true
            · rw [if_pos h9] at hM
              have HR := Hid.mk' hM
              have HY := Hid.mk' (parL_any' h9)
              clear h9 hM
              go_wp2_with fail
              refine (admit_twice ps nb vb ao cap ps.length _ HA8.out.own.isV rfl h8 HY.out).mono ?_
              rintro e w9 ⟨he, b9⟩
              unfold gave at he
              subst he
              have T9 := Hid.mk' (HA8.out.keep b9).turns
              clear b9
              go_wp2
              exact ⟨rfl, MdOut.no HR.out T9.out⟩
            · rw [if_neg h9] at hM
              have HNo := Hid.mk' (parL_none' h9)
              clear h9
              by_cases h8e : (parL ps).length = 8
              · rw [if_pos h8e] at hM
                have HR := Hid.mk' hM
                rw [parL_length] at h8e
                have H8 := Hid.mk' h8e
                clear hM h8e
                go_wp2_with fail
                refine (admit_many ps nb vb ao cap ps.length _ HA8.out.own.isV rfl (by have := H8.out; omega) (by omega) HNo.out).mono ?_
                rintro e w9 ⟨he, b9⟩
                unfold gave at he
                subst he
                have T9 := Hid.mk' (HA8.out.keep b9).turns
                clear b9
                go_wp2
                exact ⟨rfl, MdOut.no HR.out T9.out⟩
              · rw [if_neg h8e] at hM
                have HR := Hid.mk' hM
                rw [parL_length] at h8e
                clear hM
                go_wp2_with fail
                refine (admit_ok ps nb vb ao cap ps.length _ HA8.out.own.isV rfl (by omega) HNo.out).mono ?_
                rintro e w9 ⟨rfl, b9⟩
                have HA9 := Hid.mk' (HA8.out.keep b9)
                have HPb9 := Hid.mk' ((b9.block _ (Array.getElem?_eq_some_iff.1 HPb.out).1).trans HPb.out)
                clear b9 HA8 HPb c0 c1 f0 f1 d0 d1 g0 g1 HNo
                obtain ⟨c0, c1, f0, f1, d0, d1, g0, g1⟩ := HA9.out.cells
                have p0 : w9.cell? ⟨w7.heap.size, 0, none⟩ = some (.string nb) := cell_of_row w9 _ 0 _ _ _ HPb9.out
                have p1 : w9.cell? ⟨w7.heap.size, 1, none⟩ = some (.string vb) := cell_of_row w9 _ 1 _ _ _ HPb9.out
                obtain ⟨t0, hi0, hz0, hz1, hz2⟩ := info_parts info_param
                have Hi := Hid.mk' hi0; have Hz0 := Hid.mk' hz0; have Hz1 := Hid.mk' hz1; have Hz2 := Hid.mk' hz2
                clear hi0 hz0 hz1 hz2
                go_wp2_with (at_builtin; refine wpList_append_v rfl (.tmp 27) (.tmp 29) 111 rfl w.heap.size 133 t0 (.agg #[.string ⟨#[]⟩, .string ⟨#[]⟩]) 2 32 Tryz.underlying111 Hi.out Hz0.out Hz1.out Hz2.out rfl (by decide) rfl (HA9.out.own.alloc _) rfl (IsV.made _ _ 1 _ _) rfl (fun u hu => by simp at hu; rcases hu with rfl | rfl <;> rfl) (by omega) (by omega) (by have := HA9.out.turns.size; simp; omega) ?_; intro ao5 cap5 w10 hO5 hG5 _; have hB5 := HA9.out.grows _ hG5; have hm5 := hB5.row HA9.out.med (fun e => e.2.2 rfl); have m1 : w10.cell? ⟨w2.heap.size, 1, none⟩ = some (.slice ao ps.length cap) := cell_of_row w10 _ 1 _ _ _ hm5; have mf : w10.frozen? ⟨w2.heap.size, 1, none⟩ = false := frozen_of_row w10 _ 1 _ _ hm5; have HO5 := Hid.mk' hO5; have HB5 := Hid.mk' hB5; clear hO5 hG5 hB5 hm5)
                have hO := HO5.out
                rw [show pairV ps ++ (#[Value.string nb, Value.string vb]).toList = pairV (ps ++ [(nb, vb)]) by rw [pairV_append]; rfl] at hO
                have HA10 := Hid.mk' (HA9.out.pars (ps' := ps ++ [(nb, vb)]) (by rw [List.length_append]; exact hO) HB5.out (ps.length + 1) (by rw [List.length_append]; rfl))
                clear hO HO5 HB5 HA9
                refine (blanksR_any s j g _ HA10.out.rd (by omega) hj).mono ?_
                rintro e w11 ⟨rfl, h11, t11⟩
                have HA11 := Hid.mk' (HA10.out.feed h11 t11)
                have hge := Pm.blanks_ge s.data.toList j
                clear h11 t11 HA10
                go_wp2
                go_roundw
                case rel => exact ⟨j, f', ps ++ [(nb, vb)], ao5, cap5, hj, HA11.out, by omega, by rw [List.length_append]; simp; omega, by rw [HR.out, parL_append]; rfl⟩
                case measure => rw [HA11.out.rd.atOf, HAt.out]; omega
        · have hp0 := Pm.par_N s.data.toList b
          rw [if_neg h59] at hp0
          rw [hp0] at hM
          have HR := Hid.mk' hM
          have HN := Hid.mk' (need_no s b g 59 _ HA4.out.rd h59)
          clear hM hp0 h59
          go_wp2_with fail
          refine HN.out.mono ?_
          rintro e w5 ⟨he, t5⟩
          unfold gave at he
          subst he
          have T5 := Hid.mk' (HA4.out.turns.trans t5 (fun _ h _ => h))
          clear t5
          go_wp2
          exact ⟨rfl, MdOut.no HR.out T5.out⟩
end Go.Proofs.YtdclmpdjjkjfjaaGreatDoor

/- Package params, walked: caught. -/
namespace Go.Proofs.YtdclmpdjjkjfjaaGreatDoor
open Go.RowKit

theorem catch_panicking (p : Addr) (x c : Int) (older : List PanicEntry) (w : World) (hc : w.cell? p = some (.int .i64 x)) (hz : w.frozen? p = false) :
    CallsD Tryz.prog 164 #[.pointer (some p)] (.panicking ({ v := .iface 168 (.int .i64 c), recovered := false } :: older)) w fun e u' w' =>
      e = .returned (.tuple #[]) ∧ u' = .panicking ({ v := .iface 168 (.int .i64 c), recovered := true } :: older) ∧ w' = w.setCell p (.int .i64 c) := by
  refine callsD_of_wpS Tryz.func164 rfl fun c₀ cs hu => ?_
  apply wpS_seq
  apply wpS_region
  simp [wpOpsS, go_sem, recoverD, hu, Tryz.ntmps164, Exit.thenS]
  change Code.wpS _ _ _ { tmps := #[.pointer (some p), .iface 168 (.int .i64 c), .iface 168 (.int .i64 c), undef, undef, undef, undef], defers := [] } _ _
  refine wpS_of_wp ?_
  have hta : ∀ w : World, (Instr.typeAssert (.iface 168 (.int .i64 c)) 20 168 false).run Tryz.prog w = .ok (.int .i64 c) w := fun _ => by kernel_rfl
  go_wp2
  simp [bodyPostS, results, Tryz.results164]

theorem catch_idle (p : Addr) (w : World) :
    CallsD Tryz.prog 164 #[.pointer (some p)] .returning w fun e u' w' => e = .returned (.tuple #[]) ∧ u' = .returning ∧ w' = w := by
  refine callsD_of_wpS Tryz.func164 rfl fun c₀ cs hu => ?_
  apply wpS_seq
  apply wpS_region
  simp [wpOpsS, go_sem, recoverD, hu, Tryz.ntmps164, Exit.thenS]
  change Code.wpS _ _ _ { tmps := #[.pointer (some p), .nilIface, .nilIface, undef, undef, undef, undef], defers := [] } _ _
  refine wpS_of_wp ?_
  go_wp2
  cases c₀
  simp_all [bodyPostS, results, Tryz.results164]

/-- two blocks -/
def both (g rb : Nat) : Nat → Prop := fun k => k = g ∨ k = rb
/-- what lies where the answer is told -/
def MdIn (x : List UInt8 × List Pm.Par) (base rb : Nat) (w' : World) : Prop :=
  ∃ word ps ao cap, w'.heap[rb]? = some (.cells #[.string word, .slice ao ps.length cap] 113 (0, 0)) ∧ word.data.toList = x.1 ∧ parL ps = x.2 ∧ OwnV w' base 133 2 ao cap ps.length (pairV ps)

theorem reader_no (s : ByteArray) (g rb : Nat) (w : World) (h : RdAt w g s 0) (hs : s.size ≤ 100000) (c : Nat) (hm : Pm.medN s.data.toList 0 = .inl c) :
    Calls Tryz.prog 150 #[.pointer (some ⟨g, 0, none⟩), .pointer (some ⟨rb, 0, none⟩)] w fun e w' => e = gave c ∧ Turns (only g) w w' := by
  have HM := Hid.mk' (mediaR_any s g w h hs)
  rw [hm] at HM
  clear hm
  go_enter Tryz.func150, Tryz.ntmps150
  go_wp2_with fail
  refine HM.out.mono ?_
  rintro e w1 ⟨he, t1⟩
  unfold gave at he
  subst he
  go_wp2
  exact ⟨rfl, rfl, t1⟩
set_option maxHeartbeats 800000 in
theorem reader_yes (s : ByteArray) (g rb : Nat) (w : World) (h : RdAt w g s 0) (hr : w.heap[rb]? = some (.cells #[.string ⟨#[]⟩, .slice none 0 0] 113 (0, 0))) (hs : s.size ≤ 100000) (x : List UInt8 × List Pm.Par) (hm : Pm.medN s.data.toList 0 = .inr x) :
    Calls Tryz.prog 150 #[.pointer (some ⟨g, 0, none⟩), .pointer (some ⟨rb, 0, none⟩)] w fun e w' => e = .returned (.tuple #[]) ∧ MdIn x w.heap.size rb w' ∧ Turns (both g rb) w w' := by
  have HM := Hid.mk' (mediaR_any s g w h hs)
  rw [hm] at HM
  have hne : rb ≠ g := by
    rintro rfl
    unfold RdAt at h
    rw [hr] at h
    injection h with h
    injection h with _ h _
    exact absurd h (by decide)
  have HR := Hid.mk' hr
  have hrlt : rb < w.heap.size := (Array.getElem?_eq_some_iff.1 hr).1
  clear hm h hr
  go_enter Tryz.func150, Tryz.ntmps150
  go_wp2_with fail
  refine HM.out.mono ?_
  rintro e w1 ⟨wo, ps, ao, cap, rfl, hwo, hps, ho, t1⟩
  have HR1 := Hid.mk' (t1.row HR.out (fun e => hne e))
  have c0 : w1.cell? ⟨rb, 0, none⟩ = some (.string ⟨#[]⟩) := cell_of_row w1 _ 0 _ _ _ HR1.out
  have c1 : w1.cell? ⟨rb, 1, none⟩ = some (.slice none 0 0) := cell_of_row w1 _ 1 _ _ _ HR1.out
  have f0 : w1.frozen? ⟨rb, 0, none⟩ = false := frozen_of_row w1 _ 0 _ _ HR1.out
  have f1 : w1.frozen? ⟨rb, 1, none⟩ = false := frozen_of_row w1 _ 1 _ _ HR1.out
  have HT : Hid (Turns (fun i => i = rb) w1 ((w1.setCell ⟨rb, 0, none⟩ (.string wo)).setCell ⟨rb, 1, none⟩ (.slice ao ps.length cap))) :=
    Turns.trans (S := fun i => i = rb) (Turns.setCell (fun i => i = rb) w1 ⟨rb, 0, none⟩ (.string wo) rfl) (Turns.setCell (fun i => i = rb) _ _ _ rfl) (fun _ h _ => h)
  have HD : Hid (((w1.setCell ⟨rb, 0, none⟩ (.string wo)).setCell ⟨rb, 1, none⟩ (.slice ao ps.length cap)).heap[rb]? = some (.cells #[.string wo, .slice ao ps.length cap] 113 (0, 0))) := by
    have h1 := heap_setCell_same w1 rb 0 _ _ (.string wo) HR1.out
    have h2 := heap_setCell_same _ rb 1 _ _ (.slice ao ps.length cap) h1
    unfold Hid
    rw [h2]; rfl
  have HO := Hid.mk' (ho.turns HT.out (fun a e e2 => by have := (ho.block a e).1; omega))
  have T2 : Hid (Turns (both g rb) w ((w1.setCell ⟨rb, 0, none⟩ (.string wo)).setCell ⟨rb, 1, none⟩ (.slice ao ps.length cap))) := (t1.mono (S' := both g rb) (fun k e => Or.inl e)).trans HT.out (fun i e _ => Or.inr e)
  have HE : Hid (wo.data.toList = x.1 ∧ parL ps = x.2) := ⟨hwo, hps⟩
  clear hwo hps ho t1 HR1 HT
  go_wp2
  go_end0
  exact ⟨rfl, ⟨wo, ps, ao, cap, HD.out, HE.out.1, HE.out.2, HO.out⟩, T2.out⟩

set_option maxHeartbeats 800000 in
theorem caught_no (s : ByteArray) (g rb : Nat) (w : World) (h : RdAt w g s 0) (hs : s.size ≤ 100000) (c : Nat) (hm : Pm.medN s.data.toList 0 = .inl c) :
    Calls Tryz.prog 149 #[.func (.func 150) #[] #[.pointer (some ⟨g, 0, none⟩), .pointer (some ⟨rb, 0, none⟩)]] w fun e w' => e = .returned (.int .i64 (c : Int)) ∧ Turns (only g) w w' := by
  have hmf : ∀ (fn : Fn) (first cap : Array Value) (w : World), (Instr.makeFunc fn first cap).run Tryz.prog w = .ok (.func fn first cap) w := fun _ _ _ _ => rfl
  have hlt := h.lt
  have hB : Below w.heap.size w (w.alloc (.cells #[.int .i64 0] 3)) := (Below.refl _ _).alloc (Nat.le_refl _) _
  have R0 : Hid ((w.alloc (.cells #[.int .i64 0] 3)).heap[w.heap.size]? = some (.cells #[.int .i64 0] 3 (0, 0))) := heap_alloc_new w _
  have HM := Hid.mk' (reader_no s g rb _ (h.keep hB) hs c hm)
  have T0 := Hid.mk' (Turns.of_below (S := only g) hB)
  clear hm h hB
  go_enter_defers Tryz.func149, Tryz.ntmps149
  go_wp2_with fail
  refine HM.out.mono ?_
  rintro e w1 ⟨he, t1⟩
  unfold gave at he
  subst he
  have R1 := Hid.mk' (t1.row R0.out (fun e => by unfold only at e; omega))
  have T1 := Hid.mk' (T0.out.trans t1 (fun _ h _ => h))
  have c0 : w1.cell? ⟨w.heap.size, 0, none⟩ = some (.int .i64 0) := cell_of_row w1 _ 0 _ _ _ R1.out
  have f0 : w1.frozen? ⟨w.heap.size, 0, none⟩ = false := frozen_of_row w1 _ 0 _ _ R1.out
  have T2 : Hid (Turns (only g) w (w1.setCell ⟨w.heap.size, 0, none⟩ (.int .i64 c))) := T1.out.trans (Turns.setCell (fun k => k = w.heap.size) _ _ _ rfl) (fun i e hi => by omega)
  have c2 : (w1.setCell ⟨w.heap.size, 0, none⟩ (.int .i64 c)).cell? ⟨w.heap.size, 0, none⟩ = some (.int .i64 c) := World.cell?_setCell_same w1 _ _ c0
  clear t1 R0 R1 T0 T1
  go_wp2
  refine leaves_cons (f := 164) (args := #[.pointer (some ⟨w.heap.size, 0, none⟩)]) (by simp) (by simp [go_sem]) ?_
  refine (catch_panicking ⟨w.heap.size, 0, none⟩ 0 c [] _ c0 f0).mono ?_
  rintro e u' w'' ⟨rfl, rfl, rfl⟩
  simp [Leaves, settle, results, Tryz.results149, go_sem, c2]
  exact T2.out

set_option maxHeartbeats 800000 in
theorem caught_yes (s : ByteArray) (g rb : Nat) (w : World) (h : RdAt w g s 0) (hr : w.heap[rb]? = some (.cells #[.string ⟨#[]⟩, .slice none 0 0] 113 (0, 0))) (hs : s.size ≤ 100000) (x : List UInt8 × List Pm.Par) (hm : Pm.medN s.data.toList 0 = .inr x) :
    Calls Tryz.prog 149 #[.func (.func 150) #[] #[.pointer (some ⟨g, 0, none⟩), .pointer (some ⟨rb, 0, none⟩)]] w fun e w' => e = .returned (.int .i64 0) ∧ MdIn x w.heap.size rb w' ∧ Turns (both g rb) w w' := by
  have hmf : ∀ (fn : Fn) (first cap : Array Value) (w : World), (Instr.makeFunc fn first cap).run Tryz.prog w = .ok (.func fn first cap) w := fun _ _ _ _ => rfl
  have hlt := h.lt
  have hrlt : rb < w.heap.size := (Array.getElem?_eq_some_iff.1 hr).1
  have hB : Below w.heap.size w (w.alloc (.cells #[.int .i64 0] 3)) := (Below.refl _ _).alloc (Nat.le_refl _) _
  have R0 : Hid ((w.alloc (.cells #[.int .i64 0] 3)).heap[w.heap.size]? = some (.cells #[.int .i64 0] 3 (0, 0))) := heap_alloc_new w _
  have HM := Hid.mk' (reader_yes s g rb _ (h.keep hB) ((hB.block rb hrlt).trans hr) hs x hm)
  have T0 := Hid.mk' (Turns.of_below (S := both g rb) hB)
  have hz : (w.alloc (.cells #[.int .i64 0] 3)).heap.size = w.heap.size + 1 := by simp
  rw [hz] at HM
  clear hm h hB hr hz
  go_enter_defers Tryz.func149, Tryz.ntmps149
  go_wp2_with fail
  refine HM.out.mono ?_
  rintro e w1 ⟨rfl, ⟨wo, ps, ao, cap, hd, hwo, hps, ho⟩, t1⟩
  have R1 := Hid.mk' (t1.row R0.out (fun e => by unfold both at e; omega))
  have T1 := Hid.mk' (T0.out.trans t1 (fun _ h _ => h))
  have c0 : w1.cell? ⟨w.heap.size, 0, none⟩ = some (.int .i64 0) := cell_of_row w1 _ 0 _ _ _ R1.out
  have f0 : w1.frozen? ⟨w.heap.size, 0, none⟩ = false := frozen_of_row w1 _ 0 _ _ R1.out
  have hS := Turns.setCell (fun k => k = w.heap.size) w1 ⟨w.heap.size, 0, none⟩ (.int .i64 0) rfl
  have T2 : Hid (Turns (both g rb) w (w1.setCell ⟨w.heap.size, 0, none⟩ (.int .i64 0))) := T1.out.trans hS (fun i e hi => by omega)
  have HI : Hid (MdIn x w.heap.size rb (w1.setCell ⟨w.heap.size, 0, none⟩ (.int .i64 0))) :=
    ⟨wo, ps, ao, cap, hS.row hd (by omega), hwo, hps, (ho.turns hS (fun a e e2 => by have := (ho.block a e).1; omega)).mono (by omega)⟩
  have c2 : (w1.setCell ⟨w.heap.size, 0, none⟩ (.int .i64 0)).cell? ⟨w.heap.size, 0, none⟩ = some (.int .i64 0) := World.cell?_setCell_same w1 _ _ c0
  clear t1 R0 R1 T0 T1 hS hd hwo hps ho
  go_wp2
  refine leaves_cons (f := 164) (args := #[.pointer (some ⟨w.heap.size, 0, none⟩)]) (by simp) (by simp [go_sem]) ?_
  refine (catch_idle ⟨w.heap.size, 0, none⟩ _).mono ?_
  rintro e u' w'' ⟨rfl, rfl, rfl⟩
  simp [Leaves, settle, results, Tryz.results149, go_sem, c2]
  exact ⟨HI.out, T2.out⟩
end Go.Proofs.YtdclmpdjjkjfjaaGreatDoor
