import Derived.Test.YtodmelffkfbalaaGreatDoorShelf
import Derived.Test.YtodmelffkfbalaaGreatDoorPk7
import Derived.Lib.AppendIntMem
open Go.Proofs.Tryz
namespace Go.Proofs.YtodmelffkfbalaaGreatDoor
open Go.RowKit
def dj (w:World):Prop:=Lib.TabIs prog w "internal/strconv.uint64pow10" .u64 Lib.pow10Tab
theorem dj.a {w w':World}(h:dj w)(c:Below w.heap.size w w'):dj w':=by
 unfold dj Lib.TabIs World.var? at h ⊢;cases a:prog.globalNamed "internal/strconv.uint64pow10" with
 | none=>rw[a] at h;cases h
 | some g =>
   rw[a] at h;simp only[Option.bind_some] at h ⊢;cases b:w.heap[g]? with
   | none=>rw[b] at h;cases h
   | some o=>rw[c.block g (bO.1 b).1];exact h
theorem BL:∀(f n:Nat),n<10 ^ (f+1)->Lib.decDigits n=bx f n
 | 0, n, h => by
   rw[Lib.decDigits,dif_pos (by simpa using h)];rfl
 | f + 1, n, h => by
   rw[Lib.decDigits,bx];by_cases a:n<10
   . rw[dif_pos a,if_pos a]
   . rw[dif_neg a,if_neg a,BL f (n / 10) (by rw[Nat.pow_succ] at h;omega)]
theorem mE (n:Nat)(a:n<1000000000)(W:World)(b:dj W):Calls prog 141 #[.int .i64 (n:Int)] W fun e w'=>e=.returned (.string ⟨(bx 8 n).toArray⟩)∧Below W.heap.size W w':=by
 have h:=Any.strconv_Itoa Tryz.lays171 (n:Int) (by omega) (by omega) W b;rw[Lib.itoa_nonneg,BL 8 n (by simpa using a)] at h;refine h.mono ?_;rintro e w' ⟨c,k,d,rfl⟩;exact⟨c,Lib.below_grow _ W (ak _) k d⟩
