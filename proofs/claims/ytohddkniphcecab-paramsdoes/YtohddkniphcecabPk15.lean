/- Small texts, one behind the other: PmGet, PlainMB, PlainMD, PmLawK. -/
import Derived.Test.YtohddkniphcecabPk7
import Derived.Test.YtohddkniphcecabPk14
import Derived.Test.YtohddkniphcecabPk11
import Derived.Test.YtohddkniphcecabPk10
/- Package params, walked: Get. -/
namespace Go.Proofs.Ytohddkniphcecab
open Go.RowKit

set_option maxHeartbeats 1600000 in
theorem getP_any (word : ByteArray) (l : List (ByteArray × ByteArray)) (name : ByteArray) (ao : Option Addr) (cap n : Nat) (w : World) (hl : IsV w ao cap n (pairV l)) (hn : l.length = n) (hN : n ≤ 1000000) (hz : ∀ p ∈ l, p.2.size ≤ 1000000) :
    Calls Try.prog 11 #[.agg #[.string word, .slice ao n cap], .string name] w fun e w' => e = .returned (.tuple #[.string ((Pm_get name l).getD ⟨#[]⟩), .bool (Pm_get name l).isSome]) ∧ Below w.heap.size w w' := by
  subst hn
  have HI := Hid.mk' hl
  have HZ := Hid.mk' hz
  have HB0 := Hid.mk' (BoxM.start w word ao l.length cap)
  have HF := Hid.mk' (findR_any l name ao cap l.length _ (hl.stay HB0.out.below) rfl hN)
  clear hl hz
  go_enter Try.func11, Try.ntmps11
  go_wp2_with fail
  refine HF.out.mono ?_
  rintro e w1 ⟨r, rfl, hf, b1⟩
  have HB1 := Hid.mk' (HB0.out.keep b1)
  clear b1
  rcases hf with ⟨rfl, hno⟩ | ⟨k, hk, rfl, he, hfirst⟩
  · have HR := Hid.mk' (Pm_get_none hno)
    clear hno
    go_wp2
    go_ret2
    exact ⟨by rw [HR.out]; rfl, HB1.out.below⟩
  · have HR := Hid.mk' (Pm_get_at hk hfirst he)
    have t0 : decide ((k : Int) < 0) = false := by rw [decide_eq_false_iff_not]; omega
    obtain ⟨bb, oo, rfl, hcs⟩ := (HI.out.stay HB1.out.below).lit (by rw [pairV_length]; omega)
    have hc1 : w1.cell? ⟨bb, oo + k * 2 + 1, none⟩ = some (.string l[k].2) := by
      have := hcs _ _ (pairV_at l k hk).2
      rwa [← Nat.add_assoc] at this
    have c1 := HB1.out.cells.2
    have hk' : (k : Int) < l.length := by omega
    have HCl := Hid.mk' (fun W => sclone_any l[k].2 W (HZ.out _ (List.getElem_mem hk)))
    clear hcs he hfirst
    generalize l[k] = p at *
    go_wp2_with fail
    refine (HCl.out _).mono ?_
    rintro e w2 ⟨rfl, b2⟩
    have HB2 := Hid.mk' (HB1.out.keep b2)
    clear b2
    go_wp2
    go_ret2
    exact ⟨by rw [HR.out]; rfl, HB2.out.below⟩
end Go.Proofs.Ytohddkniphcecab

/- Plain laws of values with parameters: there and back; with no program in them. -/
namespace Go.Proofs.Ytohddkniphcecab.Pm

theorem byteOf {p : UInt8 → Prop} [DecidablePred p] (h : ∀ n : Fin 256, p n.val.toUInt8) (b : UInt8) : p b := by
  have := h ⟨b.toNat, b.toNat_lt⟩
  have e : b.toNat.toUInt8 = b := by simp
  simpa only [e] using this
theorem tok_blank (b : UInt8) (h : tok b = true) : blank b = false := by
  have := byteOf (p := fun b => tok b = true → blank b = false) (by decide +kernel) b
  exact this h
theorem tok_seen (b : UInt8) (h : tok b = true) : Ch.visible b.toNat = true := by
  have := byteOf (p := fun b => tok b = true → Ch.visible b.toNat = true) (by decide +kernel) b
  exact this h
theorem tok_34 : tok 34 = false := by decide
theorem tok_47 : tok 47 = false := by decide
theorem tok_59 : tok 59 = false := by decide
theorem tok_61 : tok 61 = false := by decide
theorem isToken_iff (l : List UInt8) : Ch.isToken l = true ↔ l ≠ [] ∧ ∀ b ∈ l, tok b = true := by
  unfold Ch.isToken
  rw [Bool.and_eq_true, List.all_eq_true]
  cases l <;> simp [tok]
theorem takeW {p : UInt8 → Bool} : ∀ (l r : List UInt8), (∀ b ∈ l, p b = true) → (∀ b, r.head? = some b → p b = false) → (l ++ r).takeWhile p = l ∧ (l ++ r).dropWhile p = r
  | [], r, _, h => by
    cases r with
    | nil => exact ⟨rfl, rfl⟩
    | cons a t =>
      have := h a rfl
      simp [this]
  | a :: l, r, hl, h => by
    have ha := hl a (List.mem_cons_self ..)
    have ih := takeW l r (fun b hb => hl b (List.mem_cons_of_mem _ hb)) h
    simp [ha, ih.1, ih.2]
theorem takeWhile_all {p : UInt8 → Bool} : ∀ (l : List UInt8), ∀ b ∈ l.takeWhile p, p b = true
  | [], b, h => by simp at h
  | a :: l, b, h => by
    rw [List.takeWhile_cons] at h
    cases ha : p a
    · rw [ha] at h; simp at h
    · rw [ha] at h
      simp only [if_true, List.mem_cons] at h
      rcases h with rfl | h
      · exact ha
      · exact takeWhile_all l b h
/-- what stands between quotes is read as it was -/
theorem quo_esc : ∀ (v acc r : List UInt8), quo acc (esc v ++ 34 :: r) = some (acc ++ v, r)
  | [], acc, r => by
    have : esc [] = [] := rfl
    rw [this, List.nil_append, quo_end, List.append_nil]
  | c :: v, acc, r => by
    have e : esc (c :: v) = escB c ++ esc v := by simp [esc]
    rw [e]
    unfold escB
    split
    · rename_i h
      show quo acc (92 :: c :: (esc v ++ 34 :: r)) = _
      rw [quo_back, quo_esc v, List.append_assoc]; rfl
    · rename_i h
      have h1 : c ≠ 34 := fun e => h (Or.inl e)
      have h2 : c ≠ 92 := fun e => h (Or.inr e)
      show quo acc (c :: (esc v ++ 34 :: r)) = _
      rw [quo_byte _ _ _ h1 h2, quo_esc v, List.append_assoc]; rfl
/-- the next one begins, or there is none -/
def Next (r : List UInt8) : Prop := r = [] ∨ r.head? = some 59
theorem Next.tok {r : List UInt8} (h : Next r) : ∀ b, r.head? = some b → Pm.tok b = false := by
  intro b hb
  rcases h with rfl | h
  · simp at hb
  · rw [h] at hb; injection hb with hb; subst hb; exact tok_59
theorem Next.blank {r : List UInt8} (h : Next r) : r.dropWhile Pm.blank = r := by
  rcases h with rfl | h
  · rfl
  · cases r with
    | nil => rfl
    | cons a t =>
      simp only [List.head?_cons, Option.some.injEq] at h
      subst h
      rfl
theorem val_one (v r : List UInt8) (hr : Next r) : val ((if Ch.isToken v then v else [34] ++ esc v ++ [34]) ++ r) = .inr (v, r) := by
  cases ht : Ch.isToken v
  · simp only [Bool.false_eq_true, if_false]
    have e : [34] ++ esc v ++ [34] ++ r = 34 :: (esc v ++ 34 :: r) := by simp
    rw [e]
    unfold val
    rw [List.head?_cons, if_pos rfl, List.tail_cons, quo_esc]
    rfl
  · simp only [if_true]
    obtain ⟨hne, hall⟩ := (isToken_iff v).1 ht
    have h := takeW v r hall hr.tok
    unfold val
    rw [h.1, h.2, if_neg, if_neg hne]
    cases v with
    | nil => exact absurd rfl hne
    | cons a t =>
      simp only [List.cons_append, List.head?_cons, Option.some.injEq]
      intro e
      have := hall a (List.mem_cons_self ..)
      rw [e, tok_34] at this; cases this
theorem par_one (p : Par) (r : List UInt8) (ht : Ch.isToken p.1 = true) (hl : Ch.lower p.1 = p.1) (hr : Next r) : par (one p ++ r) = .inr (p, r) := by
  obtain ⟨hne, hall⟩ := (isToken_iff p.1).1 ht
  have e : one p ++ r = 59 :: 32 :: (p.1 ++ 61 :: ((if Ch.isToken p.2 then p.2 else [34] ++ esc p.2 ++ [34]) ++ r)) := by
    unfold one; simp
  rw [e]
  have hd : (32 :: (p.1 ++ 61 :: ((if Ch.isToken p.2 then p.2 else [34] ++ esc p.2 ++ [34]) ++ r))).dropWhile blank = p.1 ++ 61 :: ((if Ch.isToken p.2 then p.2 else [34] ++ esc p.2 ++ [34]) ++ r) := by
    rw [List.dropWhile_cons, if_pos (by decide)]
    obtain ⟨n, v⟩ := p
    cases n with
    | nil => exact absurd rfl hne
    | cons a t =>
      simp only [List.cons_append]
      rw [List.dropWhile_cons, tok_blank a (hall a (List.mem_cons_self ..))]
      rfl
  have h := takeW p.1 (61 :: ((if Ch.isToken p.2 then p.2 else [34] ++ esc p.2 ++ [34]) ++ r)) hall (fun b hb => by simp at hb; subst hb; exact tok_61)
  unfold par
  rw [List.head?_cons, if_pos rfl, List.tail_cons, hd]
  simp only [h.1, h.2]
  rw [if_neg hne, List.head?_cons, if_pos rfl, List.tail_cons, val_one _ _ hr, hl]
/-- parameters that have a text, behind others -/
def Good : List Par → List Par → Prop
  | _, [] => True
  | seen, p :: t => Ch.isToken p.1 = true ∧ Ch.lower p.1 = p.1 ∧ (seen.any fun q => q.1 == p.1) = false ∧ Ch.isVisible p.2 = true ∧ Good (seen ++ [p]) t
def texts (ps : List Par) : List UInt8 := ps.flatMap one
theorem texts_next (ps : List Par) : Next (texts ps) := by
  cases ps with
  | nil => exact Or.inl rfl
  | cons p t => exact Or.inr (by simp [texts, one])
theorem texts_length (ps : List Par) : ps.length ≤ (texts ps).length := by
  induction ps with
  | nil => simp
  | cons p t ih =>
    have : texts (p :: t) = one p ++ texts t := by simp [texts]
    rw [this, List.length_append, List.length_cons]
    have : 1 ≤ (one p).length := by unfold one; simp
    omega
theorem txt_good : ∀ (ps seen : List Par) (acc : List UInt8), Good seen ps → txt acc seen ps = .inr (acc ++ texts ps)
  | [], _, acc, _ => by simp [txt, texts]
  | p :: t, seen, acc, h => by
    obtain ⟨h1, h2, h3, h4, h5⟩ := h
    rw [txt, if_neg (by rw [h1, h2]; simp), if_neg (by rw [h3]; simp), if_neg (by rw [h4]; simp), txt_good t _ _ h5]
    simp [texts]
theorem good_txt : ∀ (ps seen : List Par) (acc t : List UInt8), txt acc seen ps = .inr t → Good seen ps ∧ t = acc ++ texts ps
  | [], _, acc, t, h => by
    rw [txt] at h; injection h with h; subst h
    exact ⟨trivial, by simp [texts]⟩
  | p :: ps, seen, acc, t, h => by
    rw [txt] at h
    split at h
    · cases h
    · rename_i h1
      split at h
      · cases h
      · rename_i h2
        split at h
        · cases h
        · rename_i h3
          obtain ⟨hg, rfl⟩ := good_txt ps _ _ t h
          refine ⟨⟨?_, ?_, Bool.eq_false_iff.2 h2, by simpa using h3, hg⟩, by simp [texts]⟩
          · cases e : Ch.isToken p.1
            · exact absurd (Or.inl e) h1
            · rfl
          · by_cases e : Ch.lower p.1 = p.1
            · exact e
            · exact absurd (Or.inr e) h1
theorem pars_texts : ∀ (ps : List Par) (n : Nat) (acc : List Par), Good acc ps → acc.length + ps.length ≤ 8 → ps.length < n → pars n (texts ps) acc = .inr (acc ++ ps)
  | [], n + 1, acc, _, _, _ => by
    rw [pars, if_pos (by rfl), List.append_nil]
  | p :: t, n + 1, acc, h, h8, hn => by
    obtain ⟨h1, h2, h3, h4, h5⟩ := h
    simp only [List.length_cons] at h8 hn
    rw [pars, (texts_next (p :: t)).blank]
    have e : texts (p :: t) = one p ++ texts t := by simp [texts]
    have hne : one p ++ texts t ≠ [] := by unfold one; simp
    rw [e, if_neg hne, par_one p _ h1 h2 (texts_next t)]
    simp only []
    rw [if_neg (by rw [h3]; simp), if_neg (by omega), pars_texts t n _ h5 (by rw [List.length_append, List.length_singleton]; omega) (by omega), List.append_assoc]
    rfl
  | _, 0, _, _, _, h => by omega
theorem tok_no47 {l : List UInt8} (h : ∀ b ∈ l, tok b = true) (j : Nat) (hj : j < l.length) : l[j] ≠ 47 := by
  intro e
  have := h _ (List.getElem_mem hj)
  rw [e, tok_47] at this; cases this
theorem lower_append (a b : List UInt8) : Ch.lower (a ++ b) = Ch.lower a ++ Ch.lower b := by simp [Ch.lower]
theorem lower_47 : Ch.lower [47] = [47] := by decide
/-- a value's word is one token, or two with a stroke between them -/
theorem wordOk_iff (wd : List UInt8) : wordOk wd = true ↔ Ch.lower wd = wd ∧ (Ch.isToken wd = true ∨ ∃ a b, wd = a ++ 47 :: b ∧ Ch.isToken a = true ∧ Ch.isToken b = true) := by
  unfold wordOk
  rw [Bool.and_eq_true, decide_eq_true_eq]
  refine and_congr_right fun _ => ?_
  constructor
  · intro h
    split at h
    · exact Or.inl h
    · rename_i hne
      rw [Bool.and_eq_true] at h
      have hlt : Fd.at_ 47 wd < wd.length := by have := Fd.at_le 47 wd; omega
      refine Or.inr ⟨_, _, ?_, h.1, h.2⟩
      have := Fd.at_here hlt
      conv => lhs; rw [← List.take_append_drop (Fd.at_ 47 wd) wd, List.drop_eq_getElem_cons hlt, this]
  · rintro (h | ⟨a, b, rfl, ha, hb⟩)
    · have : Fd.at_ 47 wd = wd.length := Fd.at_none fun j hj => tok_no47 ((isToken_iff wd).1 h).2 j hj
      rw [if_pos this]; exact h
    · have hat : Fd.at_ 47 (a ++ 47 :: b) = a.length := by
        refine Fd.at_is (by simp) (by simp) fun j hj => ?_
        have := tok_no47 ((isToken_iff a).1 ha).2 j hj
        simpa [List.getElem_append, hj] using this
      rw [hat, if_neg (by simp)]
      simp [ha, hb]
theorem dropBlank {a : List UInt8} (h : Ch.isToken a = true) (r : List UInt8) : (a ++ r).dropWhile blank = a ++ r := by
  obtain ⟨hne, hall⟩ := (isToken_iff a).1 h
  cases a with
  | nil => exact absurd rfl hne
  | cons c t =>
    rw [List.cons_append, List.dropWhile_cons, tok_blank c (hall c (List.mem_cons_self ..))]
    rfl
theorem wrd_word (wd r : List UInt8) (h : wordOk wd = true) (hr : Next r) : wrd (wd ++ r) = .inr (wd, r) := by
  obtain ⟨hl, h | ⟨a, b, rfl, ha, hb⟩⟩ := (wordOk_iff wd).1 h
  · have hd := dropBlank h r
    obtain ⟨hne, hall⟩ := (isToken_iff wd).1 h
    have ht := takeW wd r hall hr.tok
    unfold wrd
    simp only [hd, ht.1, ht.2]
    rw [if_neg hne, if_neg, hl]
    intro e
    rcases hr with rfl | hr
    · simp at e
    · rw [hr] at e; simp at e
  · have e : a ++ 47 :: b ++ r = a ++ (47 :: (b ++ r)) := by simp
    have hd := dropBlank ha (47 :: (b ++ r))
    obtain ⟨hna, halla⟩ := (isToken_iff a).1 ha
    obtain ⟨hnb, hallb⟩ := (isToken_iff b).1 hb
    have ht := takeW a (47 :: (b ++ r)) halla (fun c hc => by simp at hc; subst hc; exact tok_47)
    have ht2 := takeW b r hallb hr.tok
    unfold wrd
    rw [e]
    simp only [hd, ht.1, ht.2, List.tail_cons, ht2.1, ht2.2]
    rw [if_neg hna, List.head?_cons, if_pos rfl, if_neg hnb]
    have : Ch.lower a ++ [47] ++ Ch.lower b = a ++ 47 :: b := by
      have h2 : Ch.lower (a ++ 47 :: b) = Ch.lower a ++ ([47] ++ Ch.lower b) := by
        rw [show a ++ 47 :: b = a ++ ([47] ++ b) by simp, lower_append, lower_append, lower_47]
      rw [← hl, h2]; simp
    rw [this]
theorem seen_append (a b : List UInt8) : Ch.isVisible (a ++ b) = (Ch.isVisible a && Ch.isVisible b) := by simp [Ch.isVisible]
theorem seen_tok {l : List UInt8} (h : Ch.isToken l = true) : Ch.isVisible l = true := by
  unfold Ch.isVisible
  rw [List.all_eq_true]
  exact fun b hb => tok_seen b (((isToken_iff l).1 h).2 b hb)
theorem seen_esc (v : List UInt8) (h : Ch.isVisible v = true) : Ch.isVisible (esc v) = true := by
  unfold Ch.isVisible esc at *
  rw [List.all_flatMap, List.all_eq_true]
  intro c hc
  have := List.all_eq_true.1 h c hc
  unfold escB
  split
  · simp only [List.all_cons, List.all_nil, Bool.and_true, this]; decide
  · simp only [List.all_cons, List.all_nil, Bool.and_true, this]
theorem seen_one (p : Par) (h1 : Ch.isToken p.1 = true) (h2 : Ch.isVisible p.2 = true) : Ch.isVisible (one p) = true := by
  unfold one
  rw [seen_append, seen_append, seen_append, seen_tok h1]
  have e1 : Ch.isVisible [59, 32] = true := by decide
  have e2 : Ch.isVisible [61] = true := by decide
  have e3 : Ch.isVisible [34] = true := by decide
  rw [e1, e2]
  split
  · rw [h2]; rfl
  · rw [seen_append, seen_append, e3, seen_esc _ h2]; rfl
theorem seen_texts : ∀ (ps seen : List Par), Good seen ps → Ch.isVisible (texts ps) = true
  | [], _, _ => rfl
  | p :: t, seen, h => by
    obtain ⟨h1, _, _, h4, h5⟩ := h
    have e : texts (p :: t) = one p ++ texts t := by simp [texts]
    rw [e, seen_append, seen_one p h1 h4, seen_texts t _ h5]; rfl
theorem seen_word (wd : List UInt8) (h : wordOk wd = true) : Ch.isVisible wd = true := by
  obtain ⟨_, h | ⟨a, b, rfl, ha, hb⟩⟩ := (wordOk_iff wd).1 h
  · exact seen_tok h
  · rw [show a ++ 47 :: b = a ++ ([47] ++ b) by simp, seen_append, seen_append, seen_tok ha, seen_tok hb]; decide
/-- a value that has a text -/
structure Fine (wd : List UInt8) (ps : List Par) : Prop where
  word : wordOk wd = true
  few : ps.length ≤ 8
  good : Good [] ps
theorem text_fine {wd : List UInt8} {ps : List Par} (h : Fine wd ps) : text wd ps = .inr (wd ++ texts ps) := by
  unfold text
  rw [if_neg (by rw [h.word]; simp), if_neg (by have := h.few; omega), txt_good _ _ _ h.good]
theorem fine_text {wd : List UInt8} {ps : List Par} {t : List UInt8} (h : text wd ps = .inr t) : Fine wd ps ∧ t = wd ++ texts ps := by
  unfold text at h
  split at h
  · cases h
  · rename_i h1
    split at h
    · cases h
    · rename_i h2
      obtain ⟨hg, rfl⟩ := good_txt _ _ _ _ h
      exact ⟨⟨by simpa using h1, by omega, hg⟩, rfl⟩
/-- there -/
theorem media_text {wd : List UInt8} {ps : List Par} (h : Fine wd ps) : media (wd ++ texts ps) = .inr (wd, ps) := by
  unfold media
  rw [if_neg (by rw [seen_append, seen_word _ h.word, seen_texts _ _ h.good]; simp), wrd_word wd _ h.word (texts_next ps)]
  simp only [fin]
  rw [pars_texts ps _ [] h.good (by have := h.few; simpa using this) (by have := texts_length ps; rw [List.length_append]; omega)]
  rfl
/-- what is read of visible bytes is visible -/
theorem seen_sub {a b : List UInt8} (h : ∀ c ∈ a, c ∈ b) (hb : Ch.isVisible b = true) : Ch.isVisible a = true := by
  unfold Ch.isVisible at *
  rw [List.all_eq_true] at *
  exact fun c hc => hb c (h c hc)
theorem quo_mem (n : Nat) : ∀ (acc t v r : List UInt8), t.length ≤ n → quo acc t = some (v, r) → (∀ c ∈ v, c ∈ acc ∨ c ∈ t) ∧ (∀ c ∈ r, c ∈ t) := by
  induction n with
  | zero =>
    intro acc t v r h e
    obtain rfl : t = [] := List.eq_nil_of_length_eq_zero (by omega)
    rw [quo_nil] at e; cases e
  | succ n ih =>
    intro acc t v r h e
    cases t with
    | nil => rw [quo_nil] at e; cases e
    | cons c t =>
      by_cases h1 : c = 34
      · subst h1
        rw [quo_end] at e
        injection e with e; injection e with e1 e2
        subst e1; subst e2
        exact ⟨fun c hc => Or.inl hc, fun c hc => List.mem_cons_of_mem _ hc⟩
      · by_cases h2 : c = 92
        · subst h2
          cases t with
          | nil => rw [quo_back_nil] at e; cases e
          | cons d t =>
            rw [quo_back] at e
            have := ih _ _ _ _ (by simp at h ⊢; omega) e
            refine ⟨fun c hc => ?_, fun c hc => by have := this.2 c hc; simp [this]⟩
            rcases this.1 c hc with g | g
            · rw [List.mem_append, List.mem_singleton] at g
              rcases g with g | g
              · exact Or.inl g
              · right; simp [g]
            · right; simp [g]
        · rw [quo_byte _ _ _ h1 h2] at e
          have := ih _ _ _ _ (by simp at h ⊢; omega) e
          refine ⟨fun c hc => ?_, fun c hc => by have := this.2 c hc; simp [this]⟩
          rcases this.1 c hc with g | g
          · rw [List.mem_append, List.mem_singleton] at g
            rcases g with g | g
            · exact Or.inl g
            · right; simp [g]
          · right; simp [g]
theorem mem_of_dropWhile {p : UInt8 → Bool} {l : List UInt8} {c : UInt8} (h : c ∈ l.dropWhile p) : c ∈ l := (List.dropWhile_suffix (l := l) p).subset h
theorem mem_of_takeWhile {p : UInt8 → Bool} {l : List UInt8} {c : UInt8} (h : c ∈ l.takeWhile p) : c ∈ l := (List.takeWhile_prefix (l := l) p).subset h
theorem val_mem {r v r' : List UInt8} (h : val r = .inr (v, r')) : (∀ c ∈ v, c ∈ r) ∧ (∀ c ∈ r', c ∈ r) := by
  unfold val at h
  split at h
  · split at h
    · cases h
    · rename_i x hq
      injection h with h; subst h
      have := quo_mem _ _ _ _ _ (Nat.le_refl _) hq
      exact ⟨fun c hc => by
        rcases this.1 c hc with g | g
        · simp at g
        · exact List.mem_of_mem_tail g, fun c hc => List.mem_of_mem_tail (this.2 c hc)⟩
  · split at h
    · cases h
    · injection h with h; injection h with h1 h2
      subst h1; subst h2
      exact ⟨fun c hc => mem_of_takeWhile hc, fun c hc => mem_of_dropWhile hc⟩
theorem par_good {r r' : List UInt8} {p : Par} (h : par r = .inr (p, r')) : Ch.isToken p.1 = true ∧ Ch.lower p.1 = p.1 ∧ (∀ c ∈ p.2, c ∈ r) ∧ (∀ c ∈ r', c ∈ r) := by
  unfold par at h
  split at h
  · simp only [] at h
    split at h
    · cases h
    · rename_i h1
      split at h
      · split at h
        · cases h
        · rename_i x hv
          injection h with h; injection h with e1 e2
          subst e1; subst e2
          have hm := val_mem (v := x.1) (r' := x.2) hv
          have up : ∀ c, c ∈ ((r.tail.dropWhile blank).dropWhile tok).tail → c ∈ r := fun c hc => List.mem_of_mem_tail (mem_of_dropWhile (mem_of_dropWhile (List.mem_of_mem_tail hc)))
          refine ⟨?_, Ch.lower_again _, fun c hc => up c (hm.1 c hc), fun c hc => up c (hm.2 c hc)⟩
          rw [Ch.lower_token, isToken_iff]
          exact ⟨h1, takeWhile_all _⟩
      · cases h
  · cases h
theorem good_snoc : ∀ (ps seen : List Par) (p : Par), Good seen ps → Ch.isToken p.1 = true → Ch.lower p.1 = p.1 → ((seen ++ ps).any fun q => q.1 == p.1) = false → Ch.isVisible p.2 = true → Good seen (ps ++ [p])
  | [], seen, p, _, h1, h2, h3, h4 => ⟨h1, h2, by simpa using h3, h4, trivial⟩
  | q :: t, seen, p, h, h1, h2, h3, h4 => by
    obtain ⟨a, b, c, d, e⟩ := h
    exact ⟨a, b, c, d, good_snoc t _ p e h1 h2 (by simpa using h3) h4⟩
theorem pars_good : ∀ (n : Nat) (r : List UInt8) (acc ps : List Par), Good [] acc → acc.length ≤ 8 → Ch.isVisible r = true → pars n r acc = .inr ps → Good [] ps ∧ ps.length ≤ 8
  | 0, r, acc, ps, hg, h8, _, h => by
    rw [pars] at h; injection h with h; subst h; exact ⟨hg, h8⟩
  | n + 1, r, acc, ps, hg, h8, hv, h => by
    rw [pars] at h
    split at h
    · injection h with h; subst h; exact ⟨hg, h8⟩
    · split at h
      · cases h
      · rename_i x hx
        split at h
        · cases h
        · rename_i h9
          split at h
          · cases h
          · rename_i hne
            obtain ⟨g1, g2, g3, g4⟩ := par_good (p := x.1) (r' := x.2) hx
            refine pars_good n _ _ ps (good_snoc acc [] x.1 hg g1 g2 (by rw [List.nil_append]; exact Bool.eq_false_iff.2 h9) (seen_sub (fun c hc => mem_of_dropWhile (g3 c hc)) hv)) (by rw [List.length_append, List.length_singleton]; omega) (seen_sub (fun c hc => mem_of_dropWhile (g4 c hc)) hv) h
theorem wrd_good {l wd r : List UInt8} (h : wrd l = .inr (wd, r)) : wordOk wd = true ∧ ∀ c ∈ r, c ∈ l := by
  unfold wrd at h
  simp only [] at h
  split at h
  · cases h
  · rename_i h1
    have ha : Ch.isToken ((l.dropWhile blank).takeWhile tok) = true := (isToken_iff _).2 ⟨h1, takeWhile_all _⟩
    split at h
    · split at h
      · cases h
      · rename_i h2
        have hb : Ch.isToken (((l.dropWhile blank).dropWhile tok).tail.takeWhile tok) = true := (isToken_iff _).2 ⟨h2, takeWhile_all _⟩
        injection h with h; injection h with e1 e2
        subst e1; subst e2
        refine ⟨(wordOk_iff _).2 ⟨?_, Or.inr ⟨Ch.lower ((l.dropWhile blank).takeWhile tok), Ch.lower (((l.dropWhile blank).dropWhile tok).tail.takeWhile tok), by rw [List.append_assoc]; rfl, by rw [Ch.lower_token]; exact ha, by rw [Ch.lower_token]; exact hb⟩⟩, fun c hc => mem_of_dropWhile (mem_of_dropWhile (List.mem_of_mem_tail (mem_of_dropWhile hc)))⟩
        rw [lower_append, lower_append, lower_47, Ch.lower_again, Ch.lower_again]
    · injection h with h; injection h with e1 e2
      subst e1; subst e2
      exact ⟨(wordOk_iff _).2 ⟨Ch.lower_again _, Or.inl (by rw [Ch.lower_token]; exact ha)⟩, fun c hc => mem_of_dropWhile (mem_of_dropWhile hc)⟩
/-- and back -/
theorem media_fine {l wd : List UInt8} {ps : List Par} (h : media l = .inr (wd, ps)) : Fine wd ps := by
  unfold media at h
  split at h
  · cases h
  · rename_i hv
    have hv' : Ch.isVisible l = true := by simpa using hv
    split at h
    · cases h
    · rename_i x hx
      unfold fin at h
      split at h
      · cases h
      · rename_i ps' hp
        injection h with h; injection h with e1 e2
        subst e1; subst e2
        obtain ⟨g1, g2⟩ := wrd_good (wd := x.1) (r := x.2) hx
        obtain ⟨g3, g4⟩ := pars_good _ _ [] _ trivial (by simp) (seen_sub g2 hv') hp
        exact ⟨g1, g4, g3⟩
end Go.Proofs.Ytohddkniphcecab.Pm

/- Plain laws of values with parameters: how long they are; with no program in them. -/
namespace Go.Proofs.Ytohddkniphcecab.Pm

theorem takeW_le (p : UInt8 → Bool) (l : List UInt8) : (l.takeWhile p).length ≤ l.length := (List.takeWhile_prefix (l := l) p).length_le
theorem dropW_le (p : UInt8 → Bool) (l : List UInt8) : (l.dropWhile p).length ≤ l.length := (List.dropWhile_suffix (l := l) p).length_le
theorem both_le (p : UInt8 → Bool) (l : List UInt8) : (l.takeWhile p).length + (l.dropWhile p).length = l.length := by
  rw [← List.length_append, List.takeWhile_append_dropWhile]
theorem val_len {r v r' : List UInt8} (h : val r = .inr (v, r')) : v.length ≤ r.length ∧ r'.length ≤ r.length := by
  unfold val at h
  split at h
  · split at h
    · cases h
    · rename_i x hq
      injection h with h; subst h
      have := quo_short _ _ _ _ _ (Nat.le_refl _) hq
      rw [List.length_tail] at this
      simp only [List.length_nil] at this
      omega
  · split at h
    · cases h
    · injection h with h; injection h with h1 h2
      subst h1; subst h2
      exact ⟨takeW_le _ _, dropW_le _ _⟩
theorem par_len {r r' : List UInt8} {p : Par} (h : par r = .inr (p, r')) : p.1.length ≤ r.length ∧ p.2.length ≤ r.length ∧ r'.length ≤ r.length := by
  unfold par at h
  split at h
  · simp only [] at h
    split at h
    · cases h
    · split at h
      · split at h
        · cases h
        · rename_i x hv
          injection h with h; injection h with e1 e2
          subst e1; subst e2
          have h1 := val_len (v := x.1) (r' := x.2) hv
          rw [List.length_tail] at h1
          have h2 := dropW_le tok (r.tail.dropWhile blank)
          have h3 := dropW_le blank r.tail
          have h4 := takeW_le tok (r.tail.dropWhile blank)
          rw [List.length_tail] at h3
          dsimp only
          rw [Ch.lower_length]
          omega
      · cases h
  · cases h
theorem pars_len (N : Nat) : ∀ (n : Nat) (r : List UInt8) (acc ps : List Par), r.length ≤ N → (∀ p ∈ acc, p.1.length ≤ N ∧ p.2.length ≤ N) → pars n r acc = .inr ps → ∀ p ∈ ps, p.1.length ≤ N ∧ p.2.length ≤ N
  | 0, r, acc, ps, _, ha, h => by
    rw [pars] at h; injection h with h; subst h; exact ha
  | n + 1, r, acc, ps, hr, ha, h => by
    rw [pars] at h
    split at h
    · injection h with h; subst h; exact ha
    · split at h
      · cases h
      · rename_i x hx
        split at h
        · cases h
        · split at h
          · cases h
          · have hl := par_len (p := x.1) (r' := x.2) hx
            have hd := dropW_le blank r
            refine pars_len N n x.2 _ ps (by omega) (fun p hp => ?_) h
            rw [List.mem_append, List.mem_singleton] at hp
            rcases hp with hp | rfl
            · exact ha p hp
            · omega
theorem wrd_len {l wd r : List UInt8} (h : wrd l = .inr (wd, r)) : wd.length ≤ l.length ∧ r.length ≤ l.length := by
  unfold wrd at h
  simp only [] at h
  have hd := dropW_le blank l
  have hb := both_le tok (l.dropWhile blank)
  split at h
  · cases h
  · split at h
    · rename_i h47
      split at h
      · cases h
      · injection h with h; injection h with e1 e2
        subst e1; subst e2
        have hb2 := both_le tok ((l.dropWhile blank).dropWhile tok).tail
        rw [List.length_tail] at hb2
        have hp : 0 < ((l.dropWhile blank).dropWhile tok).length := by
          cases hx : (l.dropWhile blank).dropWhile tok with
          | nil => rw [hx] at h47; cases h47
          | cons _ _ => simp
        simp only [List.length_append, Ch.lower_length, List.length_singleton]
        omega
    · injection h with h; injection h with e1 e2
      subst e1; subst e2
      rw [Ch.lower_length]
      omega
/-- what is read is no longer than the text -/
theorem media_len {l wd : List UInt8} {ps : List Par} (h : media l = .inr (wd, ps)) : wd.length ≤ l.length ∧ ∀ p ∈ ps, p.1.length ≤ l.length ∧ p.2.length ≤ l.length := by
  unfold media at h
  split at h
  · cases h
  · split at h
    · cases h
    · rename_i x hx
      unfold fin at h
      split at h
      · cases h
      · rename_i ps' hp
        injection h with h; injection h with e1 e2
        subst e1; subst e2
        obtain ⟨g1, g2⟩ := wrd_len (wd := x.1) (r := x.2) hx
        exact ⟨g1, pars_len l.length _ _ _ _ g2 (fun p hp => by cases hp) hp⟩
theorem texts_len (N : Nat) : ∀ ps : List Par, (∀ p ∈ ps, p.1.length ≤ N ∧ p.2.length ≤ N) → (texts ps).length ≤ ps.length * (5 + 3 * N)
  | [], _ => by simp [texts]
  | p :: t, h => by
    have e : texts (p :: t) = one p ++ texts t := by simp [texts]
    have h1 := one_length p
    have h2 := h p (List.mem_cons_self ..)
    have ih := texts_len N t (fun q hq => h q (List.mem_cons_of_mem _ hq))
    rw [e, List.length_append, List.length_cons, Nat.add_mul]
    omega
theorem text_len {wd : List UInt8} {ps : List Par} {t : List UInt8} (h : text wd ps = .inr t) (hw : wd.length ≤ 2000) (hp : ∀ p ∈ ps, p.1.length ≤ 2000 ∧ p.2.length ≤ 2000) : t.length ≤ 100000 := by
  obtain ⟨hf, rfl⟩ := fine_text h
  have h1 := texts_len 2000 ps hp
  have h2 := hf.few
  have h3 : ps.length * (5 + 3 * 2000) ≤ 8 * (5 + 3 * 2000) := Nat.mul_le_mul_right _ h2
  rw [List.length_append]
  omega
end Go.Proofs.Ytohddkniphcecab.Pm

/- The statements on package params: what each call answers, once for both sides. -/
namespace Go.Proofs.Ytohddkniphcecab
open Go.RowKit

theorem val_code {r : List UInt8} {c : Nat} (h : Pm.val r = .inl c) : c ≠ 0 := by
  unfold Pm.val at h
  split at h
  · split at h
    · injection h with h; omega
    · cases h
  · split at h
    · injection h with h; omega
    · cases h
theorem par_code {r : List UInt8} {c : Nat} (h : Pm.par r = .inl c) : c ≠ 0 := by
  unfold Pm.par at h
  split at h
  · simp only [] at h
    split at h
    · injection h with h; omega
    · split at h
      · split at h
        · rename_i hv
          injection h with h; subst h
          exact val_code hv
        · cases h
      · injection h with h; omega
  · injection h with h; omega
theorem pars_code : ∀ (n : Nat) (r : List UInt8) (acc : List Pm.Par) (c : Nat), Pm.pars n r acc = .inl c → c ≠ 0
  | 0, r, acc, c, h => by rw [Pm.pars] at h; cases h
  | n + 1, r, acc, c, h => by
    rw [Pm.pars] at h
    split at h
    · cases h
    · split at h
      · rename_i hp
        injection h with h; subst h
        exact par_code hp
      · split at h
        · injection h with h; omega
        · split at h
          · injection h with h; omega
          · exact pars_code n _ _ c h
theorem wrd_code {l : List UInt8} {c : Nat} (h : Pm.wrd l = .inl c) : c ≠ 0 := by
  unfold Pm.wrd at h
  simp only [] at h
  split at h
  · injection h with h; omega
  · split at h
    · split at h
      · injection h with h; omega
      · cases h
    · cases h
theorem media_code {l : List UInt8} {c : Nat} (h : Pm.media l = .inl c) : c ≠ 0 := by
  unfold Pm.media at h
  split at h
  · injection h with h; omega
  · split at h
    · rename_i hw
      injection h with h; subst h
      exact wrd_code hw
    · unfold Pm.fin at h
      split at h
      · rename_i hp
        injection h with h; subst h
        exact pars_code _ _ _ _ hp
      · cases h
theorem txt_code : ∀ (ps seen : List Pm.Par) (acc : List UInt8) (c : Nat), Pm.txt acc seen ps = .inl c → c ≠ 0
  | [], _, _, c, h => by rw [Pm.txt] at h; cases h
  | p :: t, seen, acc, c, h => by
    rw [Pm.txt] at h
    split at h
    · injection h with h; omega
    · split at h
      · injection h with h; omega
      · split at h
        · injection h with h; omega
        · exact txt_code t _ _ c h
theorem text_code {wd : List UInt8} {ps : List Pm.Par} {c : Nat} (h : Pm.text wd ps = .inl c) : c ≠ 0 := by
  unfold Pm.text at h
  split at h
  · injection h with h; omega
  · split at h
    · injection h with h; omega
    · exact txt_code _ _ _ _ h

/-- plain texts as they lie in memory -/
def unL (L : List Pm.Par) : List (ByteArray × ByteArray) := L.map fun p => (⟨p.1.toArray⟩, ⟨p.2.toArray⟩)
theorem unL_of {ps : List (ByteArray × ByteArray)} {L : List Pm.Par} (h : parL ps = L) : ps = unL L := by
  subst h
  unfold unL parL
  rw [List.map_map]
  conv => lhs; rw [← List.map_id ps]
  rfl
theorem parL_un (L : List Pm.Par) : parL (unL L) = L := by
  unfold unL parL
  rw [List.map_map]
  conv => rhs; rw [← List.map_id L]
  rfl
def medW (m : Nat ⊕ (List UInt8 × List Pm.Par)) : ByteArray := match m with
  | .inl _ => ⟨#[]⟩
  | .inr x => ⟨x.1.toArray⟩
def medP (m : Nat ⊕ (List UInt8 × List Pm.Par)) : List (ByteArray × ByteArray) := match m with
  | .inl _ => []
  | .inr x => unL x.2
def medC (m : Nat ⊕ (List UInt8 × List Pm.Par)) : Nat := match m with
  | .inl c => c
  | .inr _ => 0
theorem medIs_eq {m : Nat ⊕ (List UInt8 × List Pm.Par)} {wo : ByteArray} {ps : List (ByteArray × ByteArray)} {c : Nat} (h : MedIs m wo ps c) : wo = medW m ∧ ps = medP m ∧ c = medC m := by
  cases m with
  | inl k => exact ⟨h.2.1, h.2.2, h.1⟩
  | inr x => exact ⟨Ch.str_eq h.2.1, unL_of h.2.2, h.1⟩
/-- what a reading answers: a value in new memory, and a code -/
def Reads (f : FuncId) (s : ByteArray) (wo : ByteArray) (ps : List (ByteArray × ByteArray)) (c : Nat) : Prop :=
  ∀ W, Calls Try.prog f #[.string s] W fun e w' => ∃ ao cap, e = .returned (.tuple #[.agg #[.string wo, .slice ao ps.length cap], .int .i64 (c : Int)]) ∧ OwnV w' W.heap.size 37 2 ao cap ps.length (pairV ps) ∧ Below W.heap.size W w'
theorem reads_of {f : FuncId} {s : ByteArray} {m : Nat ⊕ (List UInt8 × List Pm.Par)} (h : ∀ W, Calls Try.prog f #[.string s] W fun e w' => MedOut W m e w') : Reads f s (medW m) (medP m) (medC m) := fun W => (h W).mono (by
  rintro e w' ⟨wo, ps, ao, cap, c, rfl, hm, ho, hb⟩
  obtain ⟨rfl, rfl, rfl⟩ := medIs_eq hm
  exact ⟨ao, cap, rfl, ho, hb⟩)
/-- what Parse answers of a text -/
theorem parse_told (s : ByteArray) (hs : s.size ≤ 100000) : ∃ (wo : ByteArray) (ps : List (ByteArray × ByteArray)) (c : Nat), Reads 7 s wo ps c ∧
    ((c ≠ 0 ∧ wo = ⟨#[]⟩ ∧ ps = []) ∨ (c = 0 ∧ Pm.media s.data.toList = .inr (wo.data.toList, parL ps))) := by
  refine ⟨_, _, _, reads_of (fun W => parseP_any s W hs), ?_⟩
  cases hm : Pm.media s.data.toList with
  | inl c => exact Or.inl ⟨media_code hm, rfl, rfl⟩
  | inr x => exact Or.inr ⟨rfl, by show _ = Sum.inr (x.1, parL (unL x.2)); rw [parL_un]⟩
def txW (m : Nat ⊕ List UInt8) : ByteArray := match m with
  | .inl _ => ⟨#[]⟩
  | .inr t => ⟨t.toArray⟩
def txC (m : Nat ⊕ List UInt8) : Nat := match m with
  | .inl c => c
  | .inr _ => 0
/-- what a writing answers -/
def Writes (f : FuncId) (wd : ByteArray) (l : List (ByteArray × ByteArray)) (tx : ByteArray) (c : Nat) : Prop :=
  ∀ (W : World) (ao : Option Addr) (cap : Nat), IsV W ao cap l.length (pairV l) → Calls Try.prog f #[.agg #[.string wd, .slice ao l.length cap]] W fun e w' => e = .returned (.tuple #[.string tx, .int .i64 (c : Int)]) ∧ Below W.heap.size W w'
theorem writes_of {f : FuncId} {wd : ByteArray} {l : List (ByteArray × ByteArray)} {m : Nat ⊕ List UInt8} (h : ∀ (W : World) (ao : Option Addr) (cap : Nat), IsV W ao cap l.length (pairV l) → Calls Try.prog f #[.agg #[.string wd, .slice ao l.length cap]] W fun e w' => MTxt m e ∧ Below W.heap.size W w') :
    Writes f wd l (txW m) (txC m) := fun W ao cap hW => (h W ao cap hW).mono (by
  rintro e w' ⟨⟨x, c, rfl, hm⟩, hb⟩
  cases m with
  | inl k => obtain ⟨rfl, rfl⟩ := hm; exact ⟨rfl, hb⟩
  | inr t => obtain ⟨rfl, hx⟩ := hm; rw [Ch.str_eq hx]; exact ⟨rfl, hb⟩)
/-- what Text answers of a value -/
theorem text_told (wd : ByteArray) (l : List (ByteArray × ByteArray)) (hN : l.length ≤ 1000000) (hw : wd.size ≤ 2000) (hp : ∀ p ∈ l, p.1.size ≤ 2000 ∧ p.2.size ≤ 2000) : ∃ (tx : ByteArray) (c : Nat), Writes 9 wd l tx c ∧
    ((c ≠ 0 ∧ ¬ Pm.Fine wd.data.toList (parL l)) ∨ (c = 0 ∧ tx.size ≤ 100000 ∧ Pm.media tx.data.toList = .inr (wd.data.toList, parL l))) := by
  refine ⟨_, _, writes_of (fun W ao cap hW => textP_any wd l ao cap l.length W hW rfl hN hw hp), ?_⟩
  cases hm : Pm.text wd.data.toList (parL l) with
  | inl c =>
    refine Or.inl ⟨text_code hm, fun h => ?_⟩
    rw [Pm.text_fine h] at hm
    cases hm
  | inr t =>
    obtain ⟨hf, ht⟩ := Pm.fine_text hm
    have hlen := Pm.text_len hm (by rw [Ch.len_list]; exact hw) (fun q hq => by
      obtain ⟨p, hpl, rfl⟩ := List.mem_map.1 hq
      have := hp p hpl
      show p.1.data.toList.length ≤ 2000 ∧ p.2.data.toList.length ≤ 2000
      rw [Ch.len_list, Ch.len_list]; exact this)
    refine Or.inr ⟨rfl, by show t.toArray.size ≤ 100000; rw [List.size_toArray]; exact hlen, ?_⟩
    show Pm.media t = _
    rw [ht]
    exact Pm.media_text hf
/-- two that are the same -/
theorem same_yes (wd : ByteArray) (l : List (ByteArray × ByteArray)) (a1 a2 : Option Addr) (c1 c2 : Nat) (W : World) (h1 : IsV W a1 c1 l.length (pairV l)) (h2 : IsV W a2 c2 l.length (pairV l)) (hN : l.length ≤ 1000000) :
    Calls Try.prog 13 #[.agg #[.string wd, .slice a1 l.length c1], .agg #[.string wd, .slice a2 l.length c2]] W fun e w' => e = .returned (.bool true) ∧ Below W.heap.size W w' :=
  (sameMedia_any wd wd l l a1 a2 c1 c2 _ _ W h1 rfl h2 rfl hN hN).mono (by
    rintro e w' ⟨b, rfl, hb, hB⟩
    rw [hb.2 ⟨rfl, rfl⟩]
    exact ⟨rfl, hB⟩)
/-- what is read of a text is small -/
theorem parse_small {s wo : ByteArray} {ps : List (ByteArray × ByteArray)} (hs : s.size ≤ 2000) (h : Pm.media s.data.toList = .inr (wo.data.toList, parL ps)) : ps.length ≤ 8 ∧ wo.size ≤ 2000 ∧ (∀ p ∈ ps, p.1.size ≤ 2000 ∧ p.2.size ≤ 2000) ∧ Pm.Fine wo.data.toList (parL ps) := by
  have hf := Pm.media_fine h
  obtain ⟨h1, h2⟩ := Pm.media_len h
  rw [Ch.len_list] at h1
  have h3 := hf.few
  rw [parL_length] at h3
  refine ⟨h3, by rw [Ch.len_list] at h1; omega, fun p hp => ?_, hf⟩
  have := h2 _ (List.mem_map.2 ⟨p, hp, rfl⟩)
  simp only [Ch.len_list] at this
  omega
end Go.Proofs.Ytohddkniphcecab
