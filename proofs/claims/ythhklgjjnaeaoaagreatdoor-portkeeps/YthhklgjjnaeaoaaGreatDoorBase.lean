/- Small things that every walk wants. -/
import Derived.Test.YthhklgjjnaeaoaaGreatDoorAl
import Derived.Test.YthhklgjjnaeaoaaGreatDoorAm
import Derived.WalkSpells
import Derived.WalkLawsBesides
import Derived.BigQuiet
import Derived.Lib.IndexBytes
open Go.Ending renaming returned->Y
namespace Go.Proofs.YthhklgjjnaeaoaaGreatDoor
open Go.RowKit
theorem iN {a b:Bool}(h:a=b):Ending.returned (.bool a)=Y (.bool b):=by rw[h]
theorem lH {k:IntKind}{a b:Int}(h:a=b):Ending.returned (.int k a)=Y (.int k b):=by rw[h]
theorem yU {a b:ay}(h:a=b):Ending.returned (.string a)=Y (.string b):=by rw[h]
theorem Cr {k:IntKind}{a:Int}{b:Bool}{p:Int×Bool}(h:p=(a,b)):Ending.returned (.tuple #[.int k a,.bool b])=Y (.tuple #[.int k p.1,.bool p.2]):=by rw[h]
theorem Hid.mk' {p:Prop}(h:p):Hid p:=h
theorem ko {x:Int}(a:-9223372036854775808<=x)(b:x<=9223372036854775807):IntKind.i64.wrap x=x:=by rw[IntKind.wrap_i64];omega
theorem RF {x:Int}(a:-9223372036854775808<=x)(b:x<=9223372036854775807):wrap64 x=x:=by unfold wrap64;omega
theorem Qd {a b:UInt8}(h:a≠b):((a.toNat:Int) != b.toNat)=true:=by
 rw[cK];intro e;exact h (dM.1 (by omega))
theorem Qe {a b:UInt8}(h:a=b):((a.toNat:Int) != b.toNat)=false:=by subst h;simp
theorem mU {a b:UInt8}(h:a≠b):((a.toNat:Int)==b.toNat)=false:=by
 rw[aR];intro e;exact h (dM.1 (by omega))
theorem then_ {w a b:World}(h:Below w.heap.size w a)(k:Below a.heap.size a b):Below w.heap.size w b:=h.trans (k.mono h.size)
theorem iZ {w a:World}(h:∃n,a=w.drewN n):Below w.heap.size w a:=by
 obtain⟨n,rfl⟩:=h;exact⟨rfl,rfl,rfl,aM _,fun _ _=>rfl⟩
def sM (p:av×Nat):Value:=.tuple #[.string ⟨p.1.toArray⟩,.int .i64 (p.2:Int)]
theorem uf {v:Value}{p q:av×Nat}(a:q=p)(h:v=sM p):Ending.returned v=Y (sM q):=by rw[h,a]
theorem RG {w:World}{o:Obj}{w':World}(h:∃n,w'=(w.alloc o).drewN n):Below w.heap.size w w':=by
 obtain⟨n,rfl⟩:=h;exact((eY _ _).alloc (aM _) _).trans ⟨rfl,rfl,rfl,aM _,fun _ _=>rfl⟩
theorem H9 {p : Prop}(h : p): Hid p := h
theorem _root_.Go.RowKit.Hid.o {p : Prop}(h : Hid p): p := h
end Go.Proofs.YthhklgjjnaeaoaaGreatDoor