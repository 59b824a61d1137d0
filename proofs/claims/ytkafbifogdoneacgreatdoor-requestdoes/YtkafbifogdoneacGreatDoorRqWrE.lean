/- Package request, walked: Write, of any head that is small. -/
import Derived.Test.YtkafbifogdoneacGreatDoorPk28
import Derived.Test.YtkafbifogdoneacGreatDoorFbPow
namespace Go.Proofs.YtkafbifogdoneacGreatDoor
open Go.RowKit

theorem write_any (w : World) (m t : ByteArray) (mi ln : Int) (l : List (ByteArray × ByteArray)) (fo bo : Option Addr) (fcap nf bcap nb : Nat) (body : List UInt8) (hl : IsV w fo fcap nf (pairV l)) (hn : l.length = nf) (hN : nf ≤ 1000000) (hs : ∀ p ∈ l, p.1.size ≤ 2000 ∧ p.2.size ≤ 2000) (hm : m.size + t.size ≤ 10000) (hb : body.length = nb) (hBd : IsB w bo bcap body) (hnb : nb ≤ 100000) (hP : PowAt w) :
    Calls Tryz.prog 17 #[.agg #[.string m, .string t, .int .i64 mi, .slice fo nf fcap, .int .i64 ln], .slice bo nb bcap] w fun e w' => WrOut w (Rq.hdT m t l) body e w' := by
  by_cases hF : Rq.faultN (Ch.isToken m.data.toList) (Rq.isTarget t.data.toList) (m.data.toList.length + t.data.toList.length + 10) nb nf (Fd.vals bSize l).length (Fd.vals bCode l).length (Fd.vals bHost l).length = 0
  · exact write_fine w m t ⟨(Ch.decF 8 nb).toArray⟩ mi ln l fo bo fcap nf bcap nb body hl hn hN hs hm hb hBd (fun W hW => itoa_any nb (by omega) W (hP.stay hW)) rfl hF
  · exact write_fault w m t mi ln l fo bo fcap nf bcap nb body hl hn hN hs hm hb hF
end Go.Proofs.YtkafbifogdoneacGreatDoor
