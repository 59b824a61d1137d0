/- Small texts, one behind the other: RqWrB, RqWrC. -/
import Derived.Test.YtkafbifogdoneacGreatDoorPk25
import Derived.Test.YtkafbifogdoneacGreatDoorPk19
import Derived.Test.YtkafbifogdoneacGreatDoorPk6
import Derived.Deep.RegionHeldLaw
/- Package request, walked: Write. -/
namespace Go.Proofs.YtkafbifogdoneacGreatDoor
open Go.RowKit

/-- a field's line -/
def Rq.lineT (p : ByteArray × ByteArray) : List UInt8 := (Fd.text p.1.data.toList p.2.data.toList).1 ++ [13, 10]
theorem Rq.lines_zero : ∀ l : List (ByteArray × ByteArray), (∀ p ∈ l, (Fd.text p.1.data.toList p.2.data.toList).2 = 0) → Rq.lines (Rq.flB l) = .inr (l.flatMap Rq.lineT)
  | [], _ => rfl
  | p :: r, h => by
    have ih := Rq.lines_zero r (fun q hq => h q (List.mem_cons_of_mem _ hq))
    show Rq.lines ((p.1.data.toList, p.2.data.toList) :: Rq.flB r) = _
    rw [Rq.lines, if_neg (fun e => e (h p (List.mem_cons_self ..))), ih]
    simp [Rq.lineT]
theorem Rq.lines_bad : ∀ (l : List (ByteArray × ByteArray)) (i : Nat) (hi : i < l.length), (∀ p ∈ l.take i, (Fd.text p.1.data.toList p.2.data.toList).2 = 0) → (Fd.text l[i].1.data.toList l[i].2.data.toList).2 ≠ 0 → Rq.lines (Rq.flB l) = .inl (Fd.text l[i].1.data.toList l[i].2.data.toList).2
  | p :: r, 0, _, _, hc => by
    show Rq.lines ((p.1.data.toList, p.2.data.toList) :: Rq.flB r) = _
    have hc' : (Fd.text p.1.data.toList p.2.data.toList).2 ≠ 0 := hc
    rw [Rq.lines, if_pos hc']; rfl
  | p :: r, i + 1, hi, h, hc => by
    have ih := Rq.lines_bad r i (by simpa using hi) (fun q hq => h q (by rw [List.take_succ_cons]; exact List.mem_cons_of_mem _ hq)) hc
    show Rq.lines ((p.1.data.toList, p.2.data.toList) :: Rq.flB r) = _
    rw [Rq.lines, if_neg (fun e => e (h p (by rw [List.take_succ_cons]; exact List.mem_cons_self ..))), ih]
    rfl
/-- a head by its texts -/
def Rq.hdT (m t : ByteArray) (l : List (ByteArray × ByteArray)) : Rq.Hd := ⟨m.data.toList, t.data.toList, 0, Rq.flB l, 0⟩
theorem Rq.target_no (l : List UInt8) : Rq.isTarget l = false ↔ (l.head? ≠ some 47 ∨ 32 ∈ l ∨ 9 ∈ l ∨ Ch.isVisible l = false) := by
  have hb : Rq.blank l = true ↔ 32 ∈ l ∨ 9 ∈ l := by
    unfold Rq.blank
    rw [List.any_eq_true]
    constructor
    · rintro ⟨b, hb, e⟩
      simp at e
      rcases e with e | e
      · exact Or.inl (e ▸ hb)
      · exact Or.inr (e ▸ hb)
    · rintro (h | h)
      · exact ⟨32, h, rfl⟩
      · exact ⟨9, h, rfl⟩
  unfold Rq.isTarget
  rw [Bool.and_eq_false_iff, Bool.and_eq_false_iff, decide_eq_false_iff_not, Bool.not_eq_false', hb]
  constructor
  · rintro (h | (h | h) | h)
    · exact Or.inl h
    · exact Or.inr (Or.inl h)
    · exact Or.inr (Or.inr (Or.inl h))
    · exact Or.inr (Or.inr (Or.inr h))
  · rintro (h | h | h | h)
    · exact Or.inl h
    · exact Or.inr (Or.inl (Or.inl h))
    · exact Or.inr (Or.inl (Or.inr h))
    · exact Or.inr (Or.inr h)
/-- a request's text, by why it can't be written -/
theorem Rq.text_by (m t : ByteArray) (l : List (ByteArray × ByteArray)) (body : List UInt8) (F : Nat) (hF : F = Rq.faultN (Ch.isToken m.data.toList) (Rq.isTarget t.data.toList) (m.data.toList.length + t.data.toList.length + 10) body.length l.length (Fd.vals bSize l).length (Fd.vals bCode l).length (Fd.vals bHost l).length) :
    (F ≠ 0 → Rq.text (Rq.hdT m t l) body = ([], F)) ∧ (F = 0 → body.length ≤ 4000 ∧ l.length ≤ 15 ∧ Rq.text (Rq.hdT m t l) body = match Rq.lines (Rq.flB l) with
      | .inl c => ([], c)
      | .inr s => (m.data.toList ++ 32 :: (t.data.toList ++ 32 :: (Rq.v11 ++ 13 :: 10 :: (s ++ (Rq.nCL ++ [58, 32] ++ Ch.decF 8 body.length ++ 13 :: 10 :: 13 :: 10 :: body)))), 0)) := by
  have ev : ∀ (b : ByteArray), Ch.lower b.data.toList = b.data.toList → Rq.vals (Rq.flB l) b.data.toList = Rq.lists (Fd.vals b l) := fun b hb => Rq.vals_flB l b hb
  have e1 : Rq.vals (Rq.flB l) Rq.nHost = Rq.lists (Fd.vals bHost l) := ev bHost (by decide)
  have e2 : Rq.vals (Rq.flB l) Rq.nSize = Rq.lists (Fd.vals bSize l) := ev bSize (by decide)
  have e3 : Rq.vals (Rq.flB l) Rq.nCode = Rq.lists (Fd.vals bCode l) := ev bCode (by decide)
  have hln : ∀ v : List ByteArray, Rq.lists v ≠ [] ↔ 0 < v.length := fun v => by
    have : (Rq.lists v).length = v.length := by simp [Rq.lists]
    rw [← this]; exact List.length_pos_iff.symm
  have hfl : (Rq.flB l).length = l.length := by simp [Rq.flB]
  unfold Rq.text Rq.hdT
  simp only [e1, e2, e3, hfl]
  unfold Rq.faultN at hF
  by_cases h1 : Ch.isToken m.data.toList = false
  · rw [if_pos h1] at hF; rw [if_pos h1]; subst hF; exact ⟨fun _ => rfl, fun e => by omega⟩
  rw [if_neg h1] at hF; rw [if_neg h1]
  by_cases h2 : Rq.isTarget t.data.toList = false
  · rw [if_pos h2] at hF; rw [if_pos ((Rq.target_no _).1 h2)]; subst hF; exact ⟨fun _ => rfl, fun e => by omega⟩
  rw [if_neg h2] at hF; rw [if_neg (fun e => h2 ((Rq.target_no _).2 e))]
  by_cases h3 : 200 < m.data.toList.length + t.data.toList.length + 10 ∨ 4000 < body.length
  · rw [if_pos h3] at hF; rw [if_pos h3]; subst hF; exact ⟨fun _ => rfl, fun e => by omega⟩
  rw [if_neg h3] at hF; rw [if_neg h3]
  by_cases h4 : 15 < l.length
  · rw [if_pos h4] at hF; rw [if_pos (by omega)]; subst hF; exact ⟨fun _ => rfl, fun e => by omega⟩
  rw [if_neg h4] at hF; rw [if_neg (by omega)]
  by_cases h5 : 0 < (Fd.vals bSize l).length ∨ 0 < (Fd.vals bCode l).length
  · rw [if_pos h5] at hF
    rw [if_pos (by rcases h5 with h | h; exact Or.inl ((hln _).2 h); exact Or.inr ((hln _).2 h))]
    subst hF; exact ⟨fun _ => rfl, fun e => by omega⟩
  rw [if_neg h5] at hF
  rw [if_neg (fun e => h5 (by rcases e with e | e; exact Or.inl ((hln _).1 e); exact Or.inr ((hln _).1 e)))]
  have hll : (Rq.lists (Fd.vals bHost l)).length = (Fd.vals bHost l).length := by simp [Rq.lists]
  rw [hll]
  by_cases h6 : (Fd.vals bHost l).length ≠ 1
  · rw [if_pos h6] at hF; rw [if_pos h6]; subst hF; exact ⟨fun _ => rfl, fun e => by omega⟩
  rw [if_neg h6] at hF; rw [if_neg h6]; subst hF
  refine ⟨fun e => absurd rfl e, fun _ => ⟨by omega, by omega, ?_⟩⟩
  cases Rq.lines (Rq.flB l) <;> rfl
end Go.Proofs.YtkafbifogdoneacGreatDoor

/- Package request, walked: Write. -/
namespace Go.Proofs.YtkafbifogdoneacGreatDoor
open Go.RowKit

/-- what Write comes to -/
inductive WrOut (w : World) (h : Rq.Hd) (body : List UInt8) (e : Ending) (w' : World) : Prop
  | bad (c : Nat) (hc : c ≠ 0) (he : e = .returned (.tuple #[.slice none 0 0, .int .i64 (c : Int)])) (ht : Rq.text h body = ([], c)) (hB : Below w.heap.size w w')
  | ok (g cap n : Nat) (he : e = .returned (.tuple #[.slice (some ⟨g, 0, none⟩) n cap, .int .i64 0])) (hn : n = (Rq.text h body).1.length) (ht : (Rq.text h body).2 = 0) (hO : Buf w' w.heap.size g cap (Rq.text h body).1) (hB : Below w.heap.size w w')

set_option maxRecDepth 100000 in
set_option maxHeartbeats 2000000 in
/-- a code that the fields' texts have no part in -/
theorem write_fault (w : World) (m t : ByteArray) (mi ln : Int) (l : List (ByteArray × ByteArray)) (fo bo : Option Addr) (fcap nf bcap nb : Nat) (body : List UInt8) (hl : IsV w fo fcap nf (pairV l)) (hn : l.length = nf) (hN : nf ≤ 1000000) (hs : ∀ p ∈ l, p.1.size ≤ 2000 ∧ p.2.size ≤ 2000) (hm : m.size + t.size ≤ 10000) (hb : body.length = nb)
    (hF : Rq.faultN (Ch.isToken m.data.toList) (Rq.isTarget t.data.toList) (m.data.toList.length + t.data.toList.length + 10) nb nf (Fd.vals bSize l).length (Fd.vals bCode l).length (Fd.vals bHost l).length ≠ 0) :
    Calls Tryz.prog 17 #[.agg #[.string m, .string t, .int .i64 mi, .slice fo nf fcap, .int .i64 ln], .slice bo nb bcap] w fun e w' => WrOut w (Rq.hdT m t l) body e w' := by
  subst hn; subst hb
  have hl2 : ∀ s : ByteArray, s.data.toList.length = s.size := fun s => by rw [Array.length_toList]; rfl
  have hT := (Rq.text_by m t l body _ rfl).1 hF
  have hb0 : Below w.heap.size w (w.alloc (.cells #[.string m, .string t, .int .i64 mi, .slice fo l.length fcap, .int .i64 ln] 25)) := (Below.refl _ _).alloc (Nat.le_refl _) _
  have hb1 : Below w.heap.size w ((w.alloc (.cells #[.string m, .string t, .int .i64 mi, .slice fo l.length fcap, .int .i64 ln] 25)).alloc (.cells #[.string m, .string t, .string ⟨#[72, 84, 84, 80, 47, 49, 46, 49]⟩] 9)) := hb0.trans ((Below.refl _ _).alloc hb0.size _)
  have HJ := Hid.mk' (join_three m t ⟨#[72, 84, 84, 80, 47, 49, 46, 49]⟩ (w.heap.size + 1) ((w.alloc (.cells #[.string m, .string t, .int .i64 mi, .slice fo l.length fcap, .int .i64 ln] 25)).alloc (.cells #[.string m, .string t, .string ⟨#[72, 84, 84, 80, 47, 49, 46, 49]⟩] 9)) (by rw [World.cell?_alloc_at _ _ _ _ (by simp)]; rfl) (by rw [World.cell?_alloc_at _ _ _ _ (by simp)]; rfl) (by rw [World.cell?_alloc_at _ _ _ _ (by simp)]; rfl) (by show m.size + t.size + 8 ≤ _; omega))
  have hfs : (⟨(m.data.toList ++ 32 :: (t.data.toList ++ 32 :: (⟨#[72, 84, 84, 80, 47, 49, 46, 49]⟩ : ByteArray).data.toList)).toArray⟩ : ByteArray).size = m.data.toList.length + t.data.toList.length + 10 := by
    show (m.data.toList ++ 32 :: (t.data.toList ++ 32 :: [72, 84, 84, 80, 47, 49, 46, 49])).toArray.size = _
    rw [List.size_toArray]; simp; omega
  generalize (⟨(m.data.toList ++ 32 :: (t.data.toList ++ 32 :: (⟨#[72, 84, 84, 80, 47, 49, 46, 49]⟩ : ByteArray).data.toList)).toArray⟩ : ByteArray) = first at HJ hfs
  have HFl := Hid.mk' (fun W (hW : Below w.heap.size w W) => fault_any W m t first mi ln l fo bo fcap l.length body.length bcap (hl.stay hW) rfl hN hs (by omega) (by omega))
  simp only [hfs] at HFl
  have hcx : ∀ j, j < 5 → (w.alloc (.cells #[.string m, .string t, .int .i64 mi, .slice fo l.length fcap, .int .i64 ln] 25)).cell? ⟨w.heap.size, j, none⟩ = (#[Value.string m, .string t, .int .i64 mi, .slice fo l.length fcap, .int .i64 ln] : Array Value)[j]? := fun j _ => World.cell?_alloc_mark w _ _ _ j
  have HX : Hid (∀ W, Below (w.alloc (.cells #[.string m, .string t, .int .i64 mi, .slice fo l.length fcap, .int .i64 ln] 25)).heap.size (w.alloc (.cells #[.string m, .string t, .int .i64 mi, .slice fo l.length fcap, .int .i64 ln] 25)) W → W.cell? ⟨w.heap.size, 0, none⟩ = some (.string m) ∧ W.cell? ⟨w.heap.size, 1, none⟩ = some (.string t) ∧ W.cell? ⟨w.heap.size, 2, none⟩ = some (.int .i64 mi) ∧ W.cell? ⟨w.heap.size, 3, none⟩ = some (.slice fo l.length fcap) ∧ W.cell? ⟨w.heap.size, 4, none⟩ = some (.int .i64 ln)) := fun W hW =>
    ⟨(hW.cell (p := ⟨w.heap.size, 0, none⟩) (by simp)).trans (hcx 0 (by omega)), (hW.cell (p := ⟨w.heap.size, 1, none⟩) (by simp)).trans (hcx 1 (by omega)), (hW.cell (p := ⟨w.heap.size, 2, none⟩) (by simp)).trans (hcx 2 (by omega)), (hW.cell (p := ⟨w.heap.size, 3, none⟩) (by simp)).trans (hcx 3 (by omega)), (hW.cell (p := ⟨w.heap.size, 4, none⟩) (by simp)).trans (hcx 4 (by omega))⟩
  have HT := Hid.mk' hT; have HB1 := Hid.mk' hb1; have HFn := Hid.mk' hF
  generalize Rq.faultN (Ch.isToken m.data.toList) (Rq.isTarget t.data.toList) (m.data.toList.length + t.data.toList.length + 10) body.length l.length (Fd.vals bSize l).length (Fd.vals bCode l).length (Fd.vals bHost l).length = F at *
  have tF : ((F : Int) != 0) = true := by rw [bne_iff_ne]; omega
  clear hl hs hT hb0 hb1 hcx hfs hF hl2
  go_enter Tryz.func17, Tryz.ntmps17
  go_wp2_with fail
  refine HJ.out.mono ?_
  rintro e w1 ⟨rfl, hb⟩
  have hB1 := HB1.out.trans (hb.mono (by simp; omega))
  have hBb : Below (w.alloc (.cells #[.string m, .string t, .int .i64 mi, .slice fo l.length fcap, .int .i64 ln] 25)).heap.size (w.alloc (.cells #[.string m, .string t, .int .i64 mi, .slice fo l.length fcap, .int .i64 ln] 25)) w1 := ((Below.refl _ _).alloc (Nat.le_refl _) _).trans (hb.mono (by simp))
  obtain ⟨x0, x1, x2, x3, x4⟩ := HX.out w1 hBb
  have HBw := Hid.mk' hB1
  clear hb hB1 hBb
  go_wp2_with fail
  refine (HFl.out w1 HBw.out).mono ?_
  rintro e w2 ⟨rfl, hb2⟩
  have HB2 := Hid.mk' (then_ HBw.out hb2)
  clear hb2
  go_wp2
  go_ret2
  exact .bad F HFn.out rfl HT.out HB2.out
end Go.Proofs.YtkafbifogdoneacGreatDoor
