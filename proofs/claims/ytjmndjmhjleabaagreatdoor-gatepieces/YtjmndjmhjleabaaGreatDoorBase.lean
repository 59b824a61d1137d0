/- Small things that every walk wants. -/
import Derived.WalkKit
import Derived.WalkSpells
import Derived.WalkLawsBesides
import Derived.Deep.QuietTactic
import Derived.BigQuiet
import Derived.Laws.IdiomStrings
import Derived.Lib.IndexBytes
import Derived.Lib.Strings
namespace Go.Proofs.YtjmndjmhjleabaaGreatDoor
open Go.RowKit
theorem bA {a b:Bool}(h:a=b):Ending.returned (.bool a)=.returned (.bool b):=by rw[h]
theorem rJ {k:IntKind}{a b:Int}(h:a=b):Ending.returned (.int k a)=.returned (.int k b):=by rw[h]
theorem rM {a b:ByteArray}(h:a=b):Ending.returned (.string a)=.returned (.string b):=by rw[h]
theorem wJ {k:IntKind}{a:Int}{b:Bool}{p:Int×Bool}(h:p=(a,b)):Ending.returned (.tuple #[.int k a,.bool b])=.returned (.tuple #[.int k p.1,.bool p.2]):=by rw[h]
theorem Hid.mk' {p:Prop}(h:p):Hid p:=h
theorem gL {x:Int}(h0:-9223372036854775808<=x)(h1:x<=9223372036854775807):IntKind.i64.wrap x=x:=by rw[IntKind.wrap_i64];omega
theorem tY {x:Int}(h0:-9223372036854775808<=x)(h1:x<=9223372036854775807):wrap64 x=x:=by unfold wrap64;omega
theorem Js {a b:UInt8}(h:a≠b):((a.toNat:Int) != b.toNat)=true:=by
 rw[bne_iff_ne];intro e;exact h (UInt8.toNat_inj.1 (by omega))
theorem Jt {a b:UInt8}(h:a=b):((a.toNat:Int) != b.toNat)=false:=by subst h;simp
theorem gX {a b:UInt8}(h:a≠b):((a.toNat:Int)==b.toNat)=false:=by
 rw[beq_eq_false_iff_ne];intro e;exact h (UInt8.toNat_inj.1 (by omega))
theorem then_ {w a b:World}(h:Below w.heap.size w a)(k:Below a.heap.size a b):Below w.heap.size w b:=h.trans (k.mono h.size)
theorem bK {w a:World}(h:∃n,a=w.drewN n):Below w.heap.size w a:=by
 obtain⟨n,rfl⟩:=h;exact⟨rfl,rfl,rfl,Nat.le_refl _,fun _ _=>rfl⟩
def nL (p:List UInt8×Nat):Value:=.tuple #[.string ⟨p.1.toArray⟩,.int .i64 (p.2:Int)]
theorem mX {v:Value}{p q:List UInt8×Nat}(hq:q=p)(h:v=nL p):Ending.returned v=.returned (nL q):=by rw[h,hq]
theorem KF {w:World}{o:Obj}{w':World}(h:∃n,w'=(w.alloc o).drewN n):Below w.heap.size w w':=by
 obtain⟨n,rfl⟩:=h;exact((Below.refl _ _).alloc (Nat.le_refl _) _).trans ⟨rfl,rfl,rfl,Nat.le_refl _,fun _ _=>rfl⟩
theorem H9 {p : Prop}(h : p): Hid p := h
theorem _root_.Go.RowKit.Hid.o {p : Prop}(h : Hid p): p := h
end Go.Proofs.YtjmndjmhjleabaaGreatDoor