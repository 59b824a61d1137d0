/- Events of a stream in memory, of whatever program: one that lies at a place, and a slice of them that is read. -/
import Derived.Test.YtankilclhknbkaaMemV
namespace Go.Proofs.Ytankilclhknbkaa
open Go.RowKit

/-- an event, as it is handed over -/
structure EvD where
  kind : Int
  method : ByteArray
  target : ByteArray
  minor : Int
  fields : List (ByteArray × ByteArray)
  length : Int
  bytes : List UInt8
  pname : ByteArray
  pfile : ByteArray
  ptype : ByteArray
  pbytes : List UInt8
  code : Int
/-- where an event's slices lie -/
structure EvS where
  fo : Option Addr
  fcap : Nat
  bo : Option Addr
  bcap : Nat
  po : Option Addr
  pcap : Nat
/-- its cells -/
def EvD.cells (e : EvD) (s : EvS) : List Value := [.int .i64 e.kind, .string e.method, .string e.target, .int .i64 e.minor, .slice s.fo e.fields.length s.fcap, .int .i64 e.length, .slice s.bo e.bytes.length s.bcap, .string e.pname, .string e.pfile, .string e.ptype, .slice s.po e.pbytes.length s.pcap, .int .i64 e.code]
/-- an event lies at a place of block b from o on -/
structure IsEv (w : World) (b o : Nat) (e : EvD) (s : EvS) : Prop where
  at_ : ∀ j u, (e.cells s)[j]? = some u → w.cell? ⟨b, o + j, none⟩ = some u
  fields : IsV w s.fo s.fcap e.fields.length (pairV e.fields)
  bytes : IsB w s.bo s.bcap e.bytes
  pbytes : IsB w s.po s.pcap e.pbytes
theorem IsEv.stay {w w' : World} {b o : Nat} {e : EvD} {s : EvS} (h : IsEv w b o e s) (hb : Below w.heap.size w w') : IsEv w' b o e s :=
  ⟨fun j u hj => by have := h.at_ j u hj; rw [hb.cell (World.block_lt_of_cell? w _ this)]; exact this, h.fields.stay hb, h.bytes.stay hb, h.pbytes.stay hb⟩
/-- a slice of events that reads as es: whoever's memory it is -/
def IsEs (w : World) (ao : Option Addr) (cap : Nat) (es : List EvD) : Prop :=
  es.length ≤ cap ∧ (ao = none → cap = 0) ∧ ∀ j (hj : j < es.length), ∃ b o s, ao = some ⟨b, o, none⟩ ∧ IsEv w b (o + j * 12) es[j] s
theorem IsEs.nil (w : World) : IsEs w none 0 [] := ⟨Nat.le_refl _, fun _ => rfl, fun j hj => by simp at hj⟩
theorem IsEs.stay {w w' : World} {ao : Option Addr} {cap : Nat} {es : List EvD} (h : IsEs w ao cap es) (hb : Below w.heap.size w w') : IsEs w' ao cap es := by
  refine ⟨h.1, h.2.1, fun j hj => ?_⟩
  obtain ⟨b, o, s, e, hE⟩ := h.2.2 j hj
  exact ⟨b, o, s, e, hE.stay hb⟩
/-- its address, written out -/
theorem IsEs.lit {w : World} {ao : Option Addr} {cap : Nat} {es : List EvD} (h : IsEs w ao cap es) (hl : 0 < es.length) : ∃ b o, ao = some ⟨b, o, none⟩ ∧ ∀ j (hj : j < es.length), ∃ s, IsEv w b (o + j * 12) es[j] s := by
  obtain ⟨b, o, _, rfl, _⟩ := h.2.2 0 hl
  refine ⟨b, o, rfl, fun j hj => ?_⟩
  obtain ⟨b', o', s, e, hE⟩ := h.2.2 j hj
  injection e with e
  injection e with e1 e2
  subst e1; subst e2
  exact ⟨s, hE⟩
end Go.Proofs.Ytankilclhknbkaa
