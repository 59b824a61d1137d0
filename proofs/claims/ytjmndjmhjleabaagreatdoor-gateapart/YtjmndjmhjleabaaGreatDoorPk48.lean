/- Small texts, one behind the other: RowKit0, RowKitI, RowKitF, RowKitL, RowKitH, RowKitE, RowKitTU. -/
import Derived.ProofKit
import Derived.OpenShut
import Derived.Deep.Strs
import Derived.HandedShaped
import Derived.Test.YtjmndjmhjleabaaGreatDoorRows
import Derived.Stop.LaidErr
import Derived.Test.YtjmndjmhjleabaaGreatDoorPk45
open Go.Obj renaming cells->K
open Option renaming some->M
open Go.Proofs.Tryz
namespace Go.Proofs.YtjmndjmhjleabaaGreatDoor
open Go.ChangeShapes Go.WideShapes Go.ChangeAt Go.RowKit
theorem FM:laidOutB prog=true:=by kernel_rfl
theorem UD:prog.cellsOf 3=1:=by kernel_rfl
theorem PZ {H:Type}{enc:TypeId×Value->H}{W:World}{f:Nat}{q:aj}{len cap:Nat}{d:DataW H}{p:List MemPlace}
 (t:DataW.trod enc prog W 0 (fun _=>true) true f 55 (Value.slice q len cap).cells.toList=M (d,p)) :
 ∃l:List Int,l.length=len∧jm W q cap len (l.map fun c=>Value.int .i64 c):=by
 rcases open_ints underlying55 underlying3 UD t with ⟨b,_⟩ | ⟨a,r,s,i,b,_,w,_,v,_,e,_⟩
 . simp[Value.cells] at b;obtain⟨rfl,rfl,rfl⟩:=b;exact⟨[],rfl,jm.nil W⟩
 . simp[Value.cells] at b;obtain⟨rfl,rfl,rfl⟩:=b;simp only[if_true] at v;have k:(i.take len).length=len:=by rw[bX];omega
   refine⟨i.take len,k,⟨by omega,(fun h=>by cases h),fun j u m=>⟨a,rfl,?_⟩⟩⟩;rw[dA] at m;have o:j<(i.take len).length:=by
    rcases aT j (i.take len).length with g | g
    . exact g
    . rw[eG g] at m;cases m
   rw[dB o] at m;have n:j<i.length:=by omega
   rw[e j n,<-Option.some.inj m];simp[List.getD,n]
def Light {H:Type}(P:Program)(t:TypeId)(d:DataW H):Prop:=∀x∈d.weights P t,x<=reachBytes
theorem wX {H:Type}{P:Program}{t:TypeId}{b:List TypeId}{d:DataW H}{c:List (DataW H)}(h:∀x∈DataW.weightsEach P (t::b) (d::c),x<=reachBytes):Light P t d∧∀x∈DataW.weightsEach P b c,x<=reachBytes:=by
 rw[DataW.weightsEach] at h;exact⟨fun x a=>h x (bI _ a),fun x a=>h x (dR _ a)⟩
theorem UE {H:Type}{P:Program}{a:List TypeId}{b:List (DataW H)}(h:(DataW.weightsEach P a b).all (·<=reachBytes)=true):∀x∈DataW.weightsEach P a b,x<=reachBytes:=fun x c=>by
 simpa using dM.1 h x c
theorem UF {H:Type}{P:Program}{t e:TypeId}(c:P.underlying t=M (.slice e)){a b:List (DataW H)}(h:Light P t (.slice a b)):(a.length+b.length)*P.bytesOf e<=reachBytes:=by
 refine h _ ?_;rw[DataW.weights,c];exact cB ..
section
end
def agV {H:Type}(d:DataW H)(n:Nat):Prop:=(d=.nil∧n=0)∨∃elems spare,d=.slice elems spare∧elems.length=n
section
variable {H:Type} {enc:TypeId×Value->H} {P:Program} {w:World} {base:Nat} {held:Bool}
theorem FN {u e:TypeId}{i:Nat}{q:List Value}{d:DataW H}{p:List MemPlace}(s:P.underlying u=M (.slice e))(t:P.underlying e=M (.int .u8))(v:P.cellsOf e=1)
 (h:DataW.trod enc P w base (fun _=>true) held i u q=M (d,p)) :
 ∃(r:aj) (cap:Nat) (l:au),q=[.slice r l.length cap]∧iG w r cap l∧agV d l.length:=by
 rcases open_ints s t v h with ⟨f,m⟩ | ⟨a,len,cap,b,f,_,D,_,x,m,g,n⟩
 . injection m with o _;exact⟨none,0,[],f,iG.nil w,Or.inl ⟨o,rfl⟩⟩
 . simp only[if_true] at x;injection m with o _;have c:((b.take len).map fun z=>UInt8.ofNat z.toNat).length=len:=by rw[aD,bX];omega
   refine⟨M a,cap,(b.take len).map (fun z=>UInt8.ofNat z.toNat),by rw[c];exact f,⟨by omega,(fun h=>by cases h),fun j y=>⟨a,rfl,?_⟩⟩,Or.inr ⟨_,_,o,?_⟩⟩
   . rw[c] at y;have k:j<b.length:=by omega
     rw[g j k];have B:b.getD j 0=b[j]:=by simp[List.getD,k]
     have C:=n b[j] (aB _);have m:0<=b[j]∧b[j]<=255:=by simpa[Lit.wf,IntKind.min,IntKind.max,IntKind.signed,IntKind.bits] using C
     rw[B];simp only[aF,List.getElem_take];have e:((UInt8.ofNat b[j].toNat).toNat:Int)=b[j]:=by
      rw[UInt8.toNat_ofNat'];omega
     rw[e]
   . simp[lits] <;> omega
end
variable {H:Type} {enc:TypeId×Value->H} {P:Program} {w:World} {base:Nat} {held:Bool}
theorem FP {u t:TypeId}{c:Nat}{l:aj}{len cap k:Nat}{d:DataW H}{p:List MemPlace}(f:P.underlying u=M (.slice t))(o:P.bytesOf t=k)(h:DataW.trod enc P w base (fun _=>true) held c u [.slice l len cap]=M (d,p))(q:Light P u d):len*k<=reachBytes:=by
 rcases Go.Deep.open_slice f h with ⟨b,_⟩ | ⟨a,g,i,m,n,D,v,b,_,x,_,j,r,e⟩
 . simp at b;obtain⟨rfl,rfl,rfl⟩:=b;rw[aY];exact ay _
 . simp at b;obtain⟨rfl,rfl,rfl⟩:=b;simp only[if_true] at j;subst j;injection r with s _;subst s;have:=UF f q;rw[o] at this;simp at this;refine dF (Nat.mul_le_mul_right k ?_) this;omega
end Go.Proofs.YtjmndjmhjleabaaGreatDoor
namespace Go.Proofs.YtjmndjmhjleabaaGreatDoor
open Go.ChangeShapes Go.WideShapes Go.ChangeAt Go.RowKit
def Yk:DataW Unit->List Int
 | .agg l=>l.map fun | .lit (.int _ z)=>z | _=>0
 | _=>[]
def Yl (h:Array Obj):Array Obj :=
 ((((h.modify 1 (fun o=>match o with | K _ t frozen=>K ((Yk Rows.laid_internal_strconv_uint64pow10).map fun z=>Value.int .u64 z).toArray t frozen | o=>o)).modify 4 (fun o=>match o with | K _ t frozen=>K (Pinned.utf8FirstZ.map fun n:Nat=>Value.int .u8 (n:Int)).toArray t frozen | o=>o)).modify 5 (fun o=>match o with | K _ t frozen=>K (([128,191,160,191,128,159,144,191,128,143]++List.replicate 22 0).map fun n:Nat=>Value.int .u8 (n:Int)).toArray t frozen | o=>o)).modify 2 (fun o=>match o with | K _ t frozen=>K ((Yk Rows.laid_math_bits_deBruijn32tab).map fun z=>Value.int .u8 z).toArray t frozen | o=>o)).modify 3 (fun o=>match o with | K _ t frozen=>K ((Yk Rows.laid_math_bits_deBruijn64tab).map fun z=>Value.int .u8 z).toArray t frozen | o=>o)
end Go.Proofs.YtjmndjmhjleabaaGreatDoor
namespace Go.Proofs.YtjmndjmhjleabaaGreatDoor
open Go.ChangeShapes Go.WideShapes Go.ChangeAt Go.RowKit
theorem gPw:prog.globalNamed "internal/strconv.uint64pow10"=M 1:=by kernel_rfl
theorem aay:(prog.globals[1]?).map (·.type)=M 305:=by kernel_rfl
theorem aaz:prog.cellsOf 305=20:=by kernel_rfl
theorem Ym:prog.cellsOf 277=1:=by kernel_rfl
theorem aaA:Yk Rows.laid_internal_strconv_uint64pow10=Lib.pow10Tab:=by decide +kernel
theorem MR {W:World}{rest:List (String×DataW Unit)}{x y:String×DataW Unit}(h:laidMet prog (x::y::("internal/strconv.uint64pow10",Rows.laid_internal_strconv_uint64pow10)::rest) W):ny W:=by
 have b:laidMet prog (("internal/strconv.uint64pow10",Lib.tabData .u64 (Yk Rows.laid_internal_strconv_uint64pow10))::rest) W:=h.tail.tail;have a:=Lib.tabIs_of_head (rest:=rest) gPw aay underlying305 underlying277 Ym aaz b;rw[aaA] at a;exact a
end Go.Proofs.YtjmndjmhjleabaaGreatDoor