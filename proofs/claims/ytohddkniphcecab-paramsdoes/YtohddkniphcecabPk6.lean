/- Small texts, one behind the other: StClone, PmRdD, PmRdE, ParL. -/
import Derived.Test.YtohddkniphcecabPk2
import Derived.Test.YtohddkniphcecabShelf
import Derived.Test.YtohddkniphcecabPk5
import Derived.Test.YtohddkniphcecabPk1
import Derived.Test.YtohddkniphcecabProg
/- strings.Clone, walked. -/
namespace Go.Proofs.Ytohddkniphcecab
open Go.RowKit

set_option maxHeartbeats 400000 in
theorem sclone_any (s : ByteArray) (w : World) (hs : s.size ≤ 1000000) :
    Calls Try.prog 29 #[.string s] w fun e w' => e = .returned (.string s) ∧ Below w.heap.size w w' := by
  have hcon := Any.stringslite_Clone Try.lays316 s w (by omega)
  change Calls Try.prog 46 _ _ (fun e w' => e = .returned (.string s) ∧ Below w.heap.size w w') at hcon
  go_enter Try.func29, Try.ntmps29
  go_wp2_with (go_at_call 46; refine hcon.mono ?_; rintro e w' ⟨rfl, hB⟩)
  go_ret
  exact ⟨rfl, hB⟩
end Go.Proofs.Ytohddkniphcecab

/- Package params, walked: a reader's word and param. -/
namespace Go.Proofs.Ytohddkniphcecab
open Go.RowKit

/-- a word at a place: a code, or it and where it ends -/
def Pm.wrdN (l : List UInt8) (i : Nat) : Nat ⊕ (List UInt8 × Nat) :=
  if Pm.word l i = 0 then .inl 5
  else if l[i + Pm.word l i]? = some 47 then
    (if Pm.word l (i + Pm.word l i + 1) = 0 then .inl 5
     else .inr (Ch.lower ((l.drop i).take (Pm.word l i)) ++ [47] ++ Ch.lower ((l.drop (i + Pm.word l i + 1)).take (Pm.word l (i + Pm.word l i + 1))), i + Pm.word l i + 1 + Pm.word l (i + Pm.word l i + 1)))
  else .inr (Ch.lower ((l.drop i).take (Pm.word l i)), i + Pm.word l i)
def WrdOut (m : Nat ⊕ (List UInt8 × Nat)) (w : World) (g : Nat) (s : ByteArray) (e : Ending) (w' : World) : Prop := match m with
  | .inl c => e = gave c ∧ Turns (only g) w w'
  | .inr x => e = .returned (.string ⟨x.1.toArray⟩) ∧ x.2 ≤ s.size ∧ RdAt w' g s x.2 ∧ Turns (only g) w w'
theorem extract_list (s : ByteArray) (i n : Nat) : (s.extract i (i + n)).data.toList = (s.data.toList.drop i).take n := by
  rw [Lib.extract_data]; simp
theorem lower_parts (a b : List UInt8) : Ch.lower (a ++ (47 :: b)) = Ch.lower a ++ [47] ++ Ch.lower b := by
  have : Ch.lowB 47 = 47 := by decide
  simp [Ch.lower, this]

set_option maxHeartbeats 1600000 in
theorem wordR_any (s : ByteArray) (i g : Nat) (w : World) (h : RdAt w g s i) (hs : s.size ≤ 1000000) (hi : i ≤ s.size) :
    Calls Try.prog 34 #[.pointer (some ⟨g, 0, none⟩)] w fun e w' => WrdOut (Pm.wrdN s.data.toList i) w g s e w' := by
  have hl : s.data.toList.length = s.size := by rw [Array.length_toList]; rfl
  have hw := Pm.word_le s.data.toList i (by rw [hl]; exact hi)
  rw [hl] at hw
  by_cases h0 : Pm.word s.data.toList i = 0
  · have HR : Hid (Pm.wrdN s.data.toList i = .inl 5) := by unfold Hid Pm.wrdN; rw [if_pos h0]
    have HT := Hid.mk' (token_no s i g w h hs hi h0)
    clear h0 hw hl
    go_enter Try.func34, Try.ntmps34
    go_wp2_with fail
    refine HT.out.mono ?_
    rintro e w2 ⟨he, h2⟩
    unfold gave at he
    subst he
    go_wp2
    refine ⟨rfl, ?_⟩
    rw [HR.out]
    exact ⟨rfl, h2⟩
  · have HT := Hid.mk' (token_yes s i g w h hs hi h0)
    have hx := extract_list s i (Pm.word s.data.toList i)
    have hxz : (s.extract i (i + Pm.word s.data.toList i)).size ≤ s.size := by simp; omega
    by_cases h47 : s.data.toList[i + Pm.word s.data.toList i]? = some 47
    · have hlt : i + Pm.word s.data.toList i < s.size := by
        have := (List.getElem?_eq_some_iff.1 h47).1
        rwa [hl] at this
      have hw2 := Pm.word_le s.data.toList (i + Pm.word s.data.toList i + 1) (by rw [hl]; omega)
      rw [hl] at hw2
      by_cases h1 : Pm.word s.data.toList (i + Pm.word s.data.toList i + 1) = 0
      · have HR : Hid (Pm.wrdN s.data.toList i = .inl 5) := by unfold Hid Pm.wrdN; rw [if_neg h0, if_pos h47, if_pos h1]
        have H47 := Hid.mk' h47
        have H1 := Hid.mk' h1
        clear h0 h47 h1 hx hw2 hl
        generalize Pm.word s.data.toList i = n at *
        generalize s.extract i (i + n) = x at *
        go_enter Try.func34, Try.ntmps34
        go_wp2_with fail
        refine HT.out.mono ?_
        rintro e w1 ⟨rfl, h1, t1⟩
        have T1 := Hid.mk' t1
        have R1 := Hid.mk' h1
        clear t1 h1
        go_wp2_with fail
        refine (skip_yes s _ g 47 _ R1.out hs H47.out).mono ?_
        rintro e w2 ⟨rfl, h2, t2⟩
        have T2 := Hid.mk' (T1.out.trans t2 (fun _ h _ => h))
        have R2 := Hid.mk' h2
        clear t2 h2 T1 R1
        go_wp2_with fail
        refine (token_no s _ g _ R2.out hs (by omega) H1.out).mono ?_
        rintro e w3 ⟨he, t3⟩
        unfold gave at he
        subst he
        have T3 := Hid.mk' (T2.out.trans t3 (fun _ h _ => h))
        clear t3
        go_wp2
        refine ⟨rfl, ?_⟩
        rw [HR.out]
        exact ⟨rfl, T3.out⟩
      · have hy := extract_list s (i + Pm.word s.data.toList i + 1) (Pm.word s.data.toList (i + Pm.word s.data.toList i + 1))
        have hyz : (s.extract (i + Pm.word s.data.toList i + 1) (i + Pm.word s.data.toList i + 1 + Pm.word s.data.toList (i + Pm.word s.data.toList i + 1))).size ≤ s.size := by simp; omega
        have HR : Hid (Pm.wrdN s.data.toList i = .inr (Ch.lower (s.extract i (i + Pm.word s.data.toList i)).data.toList ++ [47] ++ Ch.lower (s.extract (i + Pm.word s.data.toList i + 1) (i + Pm.word s.data.toList i + 1 + Pm.word s.data.toList (i + Pm.word s.data.toList i + 1))).data.toList, i + Pm.word s.data.toList i + 1 + Pm.word s.data.toList (i + Pm.word s.data.toList i + 1))) := by
          unfold Hid Pm.wrdN; rw [if_neg h0, if_pos h47, if_neg h1, hx, hy]
        have HK := Hid.mk' (fun W (hW : RdAt W g s (i + Pm.word s.data.toList i + 1)) => token_yes s (i + Pm.word s.data.toList i + 1) g W hW hs (by omega) h1)
        have H47 := Hid.mk' h47
        clear h0 h47 h1 hx hy hl
        generalize Pm.word s.data.toList i = n at *
        generalize Pm.word s.data.toList (i + n + 1) = m at *
        generalize s.extract i (i + n) = x at *
        generalize s.extract (i + n + 1) (i + n + 1 + m) = y at *
        have hz : (x ++ (⟨#[47]⟩ ++ y)).size ≤ maxLen := by
          rw [ByteArray.size_append, ByteArray.size_append]; show x.size + (1 + y.size) ≤ maxLen; unfold maxLen; omega
        have HLo := Hid.mk' (fun W => lower_any (x ++ (⟨#[47]⟩ ++ y)) W hz)
        have hxy : (x ++ (⟨#[47]⟩ ++ y)).data.toList = x.data.toList ++ (47 :: y.data.toList) := by rw [Ch.data_append, Ch.data_append]; rfl
        rw [hxy, lower_parts] at HLo
        clear hxy hz
        generalize Ch.lower x.data.toList ++ [47] ++ Ch.lower y.data.toList = lo at *
        go_enter Try.func34, Try.ntmps34
        go_wp2_with fail
        refine HT.out.mono ?_
        rintro e w1 ⟨rfl, h1, t1⟩
        have T1 := Hid.mk' t1
        have R1 := Hid.mk' h1
        clear t1 h1
        go_wp2_with fail
        refine (skip_yes s _ g 47 _ R1.out hs H47.out).mono ?_
        rintro e w2 ⟨rfl, h2, t2⟩
        have T2 := Hid.mk' (T1.out.trans t2 (fun _ h _ => h))
        have R2 := Hid.mk' h2
        clear t2 h2 T1 R1
        go_wp2_with fail
        refine (HK.out _ R2.out).mono ?_
        rintro e w3 ⟨rfl, h3, t3⟩
        have T3 := Hid.mk' (T2.out.trans t3 (fun _ h _ => h))
        have R3 := Hid.mk' h3
        clear t3 h3 T2 R2
        generalize hX : x ++ (⟨#[47]⟩ ++ y) = xy at *
        go_wp2_with fail
        refine (HLo.out _).mono ?_
        rintro e w4 ⟨rfl, b4⟩
        have T4 := Hid.mk' (T3.out.trans (S' := only g) (Turns.of_below b4) (fun _ h _ => h))
        have R4 := Hid.mk' (R3.out.keep b4)
        clear b4
        go_wp2
        go_ret
        rw [HR.out]
        exact ⟨rfl, hw2, R4.out, T4.out⟩
    · have HR : Hid (Pm.wrdN s.data.toList i = .inr (Ch.lower (s.extract i (i + Pm.word s.data.toList i)).data.toList, i + Pm.word s.data.toList i)) := by
        unfold Hid Pm.wrdN; rw [if_neg h0, if_neg h47, hx]
      have HN := Hid.mk' (fun W (hW : RdAt W g s (i + Pm.word s.data.toList i)) => skip_no s (i + Pm.word s.data.toList i) g 47 W hW h47)
      clear h0 h47 hx hl
      generalize Pm.word s.data.toList i = n at *
      generalize s.extract i (i + n) = x at *
      have HLo := Hid.mk' (fun W => lower_any x W (by unfold maxLen; omega))
      generalize Ch.lower x.data.toList = lo at *
      go_enter Try.func34, Try.ntmps34
      go_wp2_with fail
      refine HT.out.mono ?_
      rintro e w1 ⟨rfl, h1, t1⟩
      have T1 := Hid.mk' t1
      have R1 := Hid.mk' h1
      clear t1 h1
      go_wp2_with fail
      refine (HN.out _ R1.out).mono ?_
      rintro e w2 ⟨rfl, h2, t2⟩
      have T2 := Hid.mk' (T1.out.trans t2 (fun _ h _ => h))
      have R2 := Hid.mk' h2
      clear t2 h2 T1 R1
      go_wp2_with fail
      refine (HLo.out _).mono ?_
      rintro e w4 ⟨rfl, b4⟩
      have T4 := Hid.mk' (T2.out.trans (S' := only g) (Turns.of_below b4) (fun _ h _ => h))
      have R4 := Hid.mk' (R2.out.keep b4)
      clear b4
      go_wp2
      go_ret
      rw [HR.out]
      exact ⟨rfl, hw, R4.out, T4.out⟩
end Go.Proofs.Ytohddkniphcecab

/- Package params, walked: a reader's param. -/
namespace Go.Proofs.Ytohddkniphcecab
open Go.RowKit

/-- a parameter at a place: a code, or it and what is left -/
def Pm.parN (l : List UInt8) (i : Nat) : Nat ⊕ (Pm.Par × List UInt8) :=
  if Pm.word l i = 0 then .inl 5
  else if l[i + Pm.word l i]? = some 61 then (match Pm.val (l.drop (i + Pm.word l i + 1)) with
    | .inl c => .inl c
    | .inr x => .inr ((Ch.lower ((l.drop i).take (Pm.word l i)), x.1), x.2))
  else .inl 5
theorem Pm.par_N (l : List UInt8) (i : Nat) : Pm.par (l.drop i) = if l[i]? = some 59 then Pm.parN l (Pm.blanks l (i + 1)) else .inl 5 := by
  rw [Pm.par_at]; rfl
def ParOut (m : Nat ⊕ (Pm.Par × List UInt8)) (w : World) (g : Nat) (s : ByteArray) (e : Ending) (w' : World) : Prop := match m with
  | .inl c => e = gave c ∧ Turns (only g) w w'
  | .inr x => e = .returned (.agg #[.string ⟨x.1.1.toArray⟩, .string ⟨x.1.2.toArray⟩]) ∧ (∃ j, j ≤ s.size ∧ RdAt w' g s j ∧ s.data.toList.drop j = x.2) ∧ Turns (only g) w w'
theorem ParOut.no {m : Nat ⊕ (Pm.Par × List UInt8)} {w w' : World} {g : Nat} {s : ByteArray} {c : Nat} (hm : m = .inl c) (ht : Turns (only g) w w') : ParOut m w g s (gave c) w' := by
  subst hm; exact ⟨rfl, ht⟩
theorem ParOut.yes {m : Nat ⊕ (Pm.Par × List UInt8)} {w w' : World} {g j : Nat} {s : ByteArray} {n v r : List UInt8} (hm : m = .inr ((n, v), r)) (hj : j ≤ s.size) (hr : RdAt w' g s j) (hd : s.data.toList.drop j = r) (ht : Turns (only g) w w') : ParOut m w g s (.returned (.agg #[.string ⟨n.toArray⟩, .string ⟨v.toArray⟩])) w' := by
  subst hm; exact ⟨rfl, ⟨j, hj, hr, hd⟩, ht⟩
/-- a reader, and beside it the place of the answer -/
structure PrAt (w : World) (g : Nat) (s : ByteArray) (k : Nat) (W : World) : Prop where
  res : W.heap[w.heap.size]? = some (.cells #[.string ⟨#[]⟩, .string ⟨#[]⟩] 37 (0, 0))
  rd : RdAt W g s k
  turns : Turns (only g) w W
  lt : g < w.heap.size
section
variable {w W w1 : World} {g k k' : Nat} {s : ByteArray}
theorem PrAt.made (h : RdAt w g s k) : PrAt w g s k (w.alloc (.cells #[.string ⟨#[]⟩, .string ⟨#[]⟩] 37)) :=
  ⟨heap_alloc_new w _, h.keep ((Below.refl _ _).alloc (Nat.le_refl _) _), Turns.of_below ((Below.refl _ _).alloc (Nat.le_refl _) _), h.lt⟩
theorem PrAt.feed (h : PrAt w g s k W) (h1 : RdAt w1 g s k') (h2 : Turns (only g) W w1) : PrAt w g s k' w1 :=
  ⟨h2.row h.res (fun e => by have := h.lt; unfold only at e; omega), h1, h.turns.trans h2 (fun _ h _ => h), h.lt⟩
theorem PrAt.keep (h : PrAt w g s k W) (hb : Below W.heap.size W w1) : PrAt w g s k w1 := h.feed (h.rd.keep hb) (Turns.of_below hb)
theorem PrAt.cells (h : PrAt w g s k W) : W.cell? ⟨w.heap.size, 0, none⟩ = some (.string ⟨#[]⟩) ∧ W.cell? ⟨w.heap.size, 1, none⟩ = some (.string ⟨#[]⟩) ∧ W.frozen? ⟨w.heap.size, 0, none⟩ = false ∧ W.frozen? ⟨w.heap.size, 1, none⟩ = false :=
  ⟨cell_of_row W _ 0 _ _ _ h.res, cell_of_row W _ 1 _ _ _ h.res, frozen_of_row W _ 0 _ _ h.res, frozen_of_row W _ 1 _ _ h.res⟩
theorem PrAt.told (h : PrAt w g s k W) (a b : Value) : RdAt ((W.setCell ⟨w.heap.size, 0, none⟩ a).setCell ⟨w.heap.size, 1, none⟩ b) g s k ∧ Turns (only g) w ((W.setCell ⟨w.heap.size, 0, none⟩ a).setCell ⟨w.heap.size, 1, none⟩ b) := by
  have hT : Turns (fun i => i = w.heap.size) W ((W.setCell ⟨w.heap.size, 0, none⟩ a).setCell ⟨w.heap.size, 1, none⟩ b) :=
    Turns.trans (S := fun i => i = w.heap.size) (Turns.setCell (fun i => i = w.heap.size) W ⟨w.heap.size, 0, none⟩ a rfl) (Turns.setCell (fun i => i = w.heap.size) _ _ _ rfl) (fun _ h _ => h)
  have := h.lt
  exact ⟨h.rd.turns hT (by omega), h.turns.trans hT (fun i e hi => by omega)⟩
end

set_option maxHeartbeats 1600000 in
theorem paramR_any (s : ByteArray) (i g : Nat) (w : World) (h : RdAt w g s i) (hs : s.size ≤ 100000) (hi : i ≤ s.size) :
    Calls Try.prog 37 #[.pointer (some ⟨g, 0, none⟩)] w fun e w' => ParOut (Pm.parN s.data.toList i) w g s e w' := by
  have hl : s.data.toList.length = s.size := by rw [Array.length_toList]; rfl
  have hw := Pm.word_le s.data.toList i (by rw [hl]; exact hi)
  rw [hl] at hw
  have H0 := Hid.mk' (PrAt.made h)
  clear h
  by_cases h0 : Pm.word s.data.toList i = 0
  · have HR : Hid (Pm.parN s.data.toList i = .inl 5) := by unfold Hid Pm.parN; rw [if_pos h0]
    have HT := Hid.mk' (token_no s i g _ H0.out.rd (by omega) hi h0)
    clear h0 hw hl
    go_enter Try.func37, Try.ntmps37
    go_wp2_with fail
    refine HT.out.mono ?_
    rintro e w2 ⟨he, t2⟩
    unfold gave at he
    subst he
    have T2 := Hid.mk' (H0.out.turns.trans t2 (fun _ h _ => h))
    clear t2
    go_wp2
    exact ⟨rfl, ParOut.no HR.out T2.out⟩
  · have HT := Hid.mk' (token_yes s i g _ H0.out.rd (by omega) hi h0)
    have hx := extract_list s i (Pm.word s.data.toList i)
    have hxz : (s.extract i (i + Pm.word s.data.toList i)).size ≤ s.size := by simp; omega
    have hM : Pm.parN s.data.toList i = if s.data.toList[i + Pm.word s.data.toList i]? = some 61 then (match Pm.val (s.data.toList.drop (i + Pm.word s.data.toList i + 1)) with
        | .inl c => .inl c
        | .inr x => .inr ((Ch.lower (s.extract i (i + Pm.word s.data.toList i)).data.toList, x.1), x.2)) else .inl 5 := by
      unfold Pm.parN; rw [if_neg h0, hx]
    clear hx h0
    generalize Pm.word s.data.toList i = n at *
    generalize s.extract i (i + n) = x at *
    have HLo := Hid.mk' (fun W => lower_any x W (by unfold maxLen; omega))
    generalize Ch.lower x.data.toList = nm at *
    by_cases h61 : s.data.toList[i + n]? = some 61
    · rw [if_pos h61] at hM
      have hlt : i + n < s.size := by
        have := (List.getElem?_eq_some_iff.1 h61).1
        rwa [hl] at this
      have H61 := Hid.mk' h61
      rw [Pm.val_at] at hM
      have hw2 := Pm.word_le s.data.toList (i + n + 1) (by rw [hl]; omega)
      rw [hl] at hw2
      clear h61
      by_cases h34 : s.data.toList[i + n + 1]? = some 34
      · rw [if_pos h34] at hM
        have hlt2 : i + n + 1 < s.size := by
          have := (List.getElem?_eq_some_iff.1 h34).1
          rwa [hl] at this
        have H34 := Hid.mk' h34
        have HQ := Hid.mk' (fun W (hW : RdAt W g s (i + n + 1 + 1)) => quoted_any s (i + n + 1 + 1) g W hW (by omega) (by omega))
        clear h34 hl
        cases hq : Pm.quo [] (s.data.toList.drop (i + n + 1 + 1)) with
        | none =>
          rw [hq] at HQ hM
          have HR := Hid.mk' hM
          clear hM hq
          go_enter Try.func37, Try.ntmps37
          go_wp2_with fail
          refine HT.out.mono ?_
          rintro e w1 ⟨rfl, h1, t1⟩
          have P1 := Hid.mk' (H0.out.feed h1 t1)
          clear h1 t1 HT H0
          go_wp2_with fail
          refine (HLo.out _).mono ?_
          rintro e w2 ⟨rfl, b2⟩
          have P2 := Hid.mk' (P1.out.keep b2)
          clear b2 P1 HLo
          go_wp2_with fail
          refine (need_yes s _ g 61 _ P2.out.rd (by omega) H61.out).mono ?_
          rintro e w3 ⟨rfl, h1, t1⟩
          have P3 := Hid.mk' (P2.out.feed h1 t1)
          clear h1 t1 P2
          go_wp2_with fail
          refine (skip_yes s _ g 34 _ P3.out.rd (by omega) H34.out).mono ?_
          rintro e w4 ⟨rfl, h1, t1⟩
          have P4 := Hid.mk' (P3.out.feed h1 t1)
          clear h1 t1 P3
          go_wp2_with fail
          refine (HQ.out _ P4.out.rd).mono ?_
          rintro e w5 ⟨t5, he⟩
          simp only [] at he
          unfold gave at he
          subst he
          have T5 := Hid.mk' (P4.out.turns.trans t5 (fun _ h _ => h))
          clear t5
          go_wp2
          exact ⟨rfl, ParOut.no HR.out T5.out⟩
        | some y =>
          obtain ⟨v, r⟩ := y
          rw [hq] at HQ hM
          have HR := Hid.mk' hM
          clear hM hq
          go_enter Try.func37, Try.ntmps37
          go_wp2_with fail
          refine HT.out.mono ?_
          rintro e w1 ⟨rfl, h1, t1⟩
          have P1 := Hid.mk' (H0.out.feed h1 t1)
          clear h1 t1 HT H0
          go_wp2_with fail
          refine (HLo.out _).mono ?_
          rintro e w2 ⟨rfl, b2⟩
          have P2 := Hid.mk' (P1.out.keep b2)
          clear b2 P1 HLo
          go_wp2_with fail
          refine (need_yes s _ g 61 _ P2.out.rd (by omega) H61.out).mono ?_
          rintro e w3 ⟨rfl, h1, t1⟩
          have P3 := Hid.mk' (P2.out.feed h1 t1)
          clear h1 t1 P2
          go_wp2_with fail
          refine (skip_yes s _ g 34 _ P3.out.rd (by omega) H34.out).mono ?_
          rintro e w4 ⟨rfl, h1, t1⟩
          have P4 := Hid.mk' (P3.out.feed h1 t1)
          clear h1 t1 P3
          go_wp2_with fail
          refine (HQ.out _ P4.out.rd).mono ?_
          rintro e w5 ⟨t5, he⟩
          simp only [] at he
          obtain ⟨rfl, j, hj, h5, hd⟩ := he
          have P5 := Hid.mk' (P4.out.feed h5 t5)
          have HD := Hid.mk' hd
          clear t5 h5 hd P4
          obtain ⟨c0, c1, f0, f1⟩ := P5.out.cells
          have HT2 := Hid.mk' (P5.out.told (.string ⟨nm.toArray⟩) (.string ⟨v.toArray⟩))
          go_wp2
          refine bodyPost_ret (v := .agg #[.string ⟨nm.toArray⟩, .string ⟨v.toArray⟩]) (by simp [results, Try.results37, go_sem, c0, c1]) rfl ?_
          exact ParOut.yes HR.out hj HT2.out.1 HD.out HT2.out.2
      · rw [if_neg h34] at hM
        have H34 := Hid.mk' (fun W (hW : RdAt W g s (i + n + 1)) => skip_no s (i + n + 1) g 34 W hW h34)
        clear h34
        by_cases h1 : Pm.word s.data.toList (i + n + 1) = 0
        · rw [if_pos h1] at hM
          have HK := Hid.mk' (fun W (hW : RdAt W g s (i + n + 1)) => token_no s (i + n + 1) g W hW (by omega) (by omega) h1)
          have HR := Hid.mk' hM
          clear hM h1 hl
          go_enter Try.func37, Try.ntmps37
          go_wp2_with fail
          refine HT.out.mono ?_
          rintro e w1 ⟨rfl, h1, t1⟩
          have P1 := Hid.mk' (H0.out.feed h1 t1)
          clear h1 t1 HT H0
          go_wp2_with fail
          refine (HLo.out _).mono ?_
          rintro e w2 ⟨rfl, b2⟩
          have P2 := Hid.mk' (P1.out.keep b2)
          clear b2 P1 HLo
          go_wp2_with fail
          refine (need_yes s _ g 61 _ P2.out.rd (by omega) H61.out).mono ?_
          rintro e w3 ⟨rfl, h1, t1⟩
          have P3 := Hid.mk' (P2.out.feed h1 t1)
          clear h1 t1 P2
          go_wp2_with fail
          refine (H34.out _ P3.out.rd).mono ?_
          rintro e w4 ⟨rfl, h1, t1⟩
          have P4 := Hid.mk' (P3.out.feed h1 t1)
          clear h1 t1 P3
          go_wp2_with fail
          refine (HK.out _ P4.out.rd).mono ?_
          rintro e w5 ⟨he, t5⟩
          unfold gave at he
          subst he
          have T5 := Hid.mk' (P4.out.turns.trans t5 (fun _ h _ => h))
          clear t5
          go_wp2
          exact ⟨rfl, ParOut.no HR.out T5.out⟩
        · have hy := extract_list s (i + n + 1) (Pm.word s.data.toList (i + n + 1))
          have hyz : (s.extract (i + n + 1) (i + n + 1 + Pm.word s.data.toList (i + n + 1))).size ≤ s.size := by simp; omega
          rw [if_neg h1, ← hy] at hM
          have HK := Hid.mk' (fun W (hW : RdAt W g s (i + n + 1)) => token_yes s (i + n + 1) g W hW (by omega) (by omega) h1)
          have HR := Hid.mk' hM
          clear hM h1 hl hy
          generalize Pm.word s.data.toList (i + n + 1) = m at *
          generalize s.extract (i + n + 1) (i + n + 1 + m) = y at *
          have HCl := Hid.mk' (fun W => sclone_any y W (by omega))
          have hye : (⟨y.data.toList.toArray⟩ : ByteArray) = y := rfl
          go_enter Try.func37, Try.ntmps37
          go_wp2_with fail
          refine HT.out.mono ?_
          rintro e w1 ⟨rfl, h1, t1⟩
          have P1 := Hid.mk' (H0.out.feed h1 t1)
          clear h1 t1 HT H0
          go_wp2_with fail
          refine (HLo.out _).mono ?_
          rintro e w2 ⟨rfl, b2⟩
          have P2 := Hid.mk' (P1.out.keep b2)
          clear b2 P1 HLo
          go_wp2_with fail
          refine (need_yes s _ g 61 _ P2.out.rd (by omega) H61.out).mono ?_
          rintro e w3 ⟨rfl, h1, t1⟩
          have P3 := Hid.mk' (P2.out.feed h1 t1)
          clear h1 t1 P2
          go_wp2_with fail
          refine (H34.out _ P3.out.rd).mono ?_
          rintro e w4 ⟨rfl, h1, t1⟩
          have P4 := Hid.mk' (P3.out.feed h1 t1)
          clear h1 t1 P3
          go_wp2_with fail
          refine (HK.out _ P4.out.rd).mono ?_
          rintro e w5 ⟨rfl, h1, t1⟩
          have P5 := Hid.mk' (P4.out.feed h1 t1)
          clear h1 t1 P4
          go_wp2_with fail
          refine (HCl.out _).mono ?_
          rintro e w6 ⟨rfl, b6⟩
          have P6 := Hid.mk' (P5.out.keep b6)
          clear b6 P5
          obtain ⟨c0, c1, f0, f1⟩ := P6.out.cells
          have HT2 := Hid.mk' (P6.out.told (.string ⟨nm.toArray⟩) (.string y))
          go_wp2
          refine bodyPost_ret (v := .agg #[.string ⟨nm.toArray⟩, .string y]) (by simp [results, Try.results37, go_sem, c0, c1]) rfl ?_
          exact ParOut.yes HR.out (j := i + n + 1 + m) hw2 HT2.out.1 rfl HT2.out.2
    · rw [if_neg h61] at hM
      have HR := Hid.mk' hM
      have HN := Hid.mk' (fun W (hW : RdAt W g s (i + n)) => need_no s (i + n) g 61 W hW h61)
      clear hM h61 hl
      go_enter Try.func37, Try.ntmps37
      go_wp2_with fail
      refine HT.out.mono ?_
      rintro e w1 ⟨rfl, h1, t1⟩
      have P1 := Hid.mk' (H0.out.feed h1 t1)
      clear h1 t1 HT H0
      go_wp2_with fail
      refine (HLo.out _).mono ?_
      rintro e w2 ⟨rfl, b2⟩
      have P2 := Hid.mk' (P1.out.keep b2)
      clear b2 P1 HLo
      go_wp2_with fail
      refine (HN.out _ P2.out.rd).mono ?_
      rintro e w3 ⟨he, t3⟩
      unfold gave at he
      subst he
      have T3 := Hid.mk' (P2.out.turns.trans t3 (fun _ h _ => h))
      clear t3
      go_wp2
      exact ⟨rfl, ParOut.no HR.out T3.out⟩
end Go.Proofs.Ytohddkniphcecab

/- Parameters as they lie in memory, as plain texts. -/
namespace Go.Proofs.Ytohddkniphcecab
open Go.RowKit

theorem info_param : (Try.prog.info? 37).map (fun i => (i.zero, i.size, i.bytes)) = some (some (.agg #[.string ⟨#[]⟩, .string ⟨#[]⟩]), 2, 32) := by kernel_rfl

theorem same_text (a b : ByteArray) : (a.toList == b.toList) = decide (a.data.toList = b.data.toList) := by
  rw [Lib.toList_data, Lib.toList_data, Bool.eq_iff_iff]; simp
/-- parameters as plain texts -/
def parL (ps : List (ByteArray × ByteArray)) : List Pm.Par := ps.map fun p => (p.1.data.toList, p.2.data.toList)
theorem parL_length (ps : List (ByteArray × ByteArray)) : (parL ps).length = ps.length := by simp [parL]
theorem parL_append (a b : List (ByteArray × ByteArray)) : parL (a ++ b) = parL a ++ parL b := by simp [parL]
theorem parL_any {ps : List (ByteArray × ByteArray)} {nm : ByteArray} {k : Nat} (hk : k < ps.length) (h : ps[k].1.data.toList = nm.data.toList) : ((parL ps).any fun q => q.1 == nm.data.toList) = true := by
  rw [List.any_eq_true]
  exact ⟨_, List.mem_map.2 ⟨ps[k], List.getElem_mem hk, rfl⟩, by simp [h]⟩
theorem parL_none {ps : List (ByteArray × ByteArray)} {nm : ByteArray} (h : ∀ p ∈ ps, p.1.data.toList ≠ nm.data.toList) : ((parL ps).any fun q => q.1 == nm.data.toList) = false := by
  rw [List.any_eq_false]
  intro q hq
  obtain ⟨p, hp, rfl⟩ := List.mem_map.1 hq
  simpa using h p hp
end Go.Proofs.Ytohddkniphcecab
