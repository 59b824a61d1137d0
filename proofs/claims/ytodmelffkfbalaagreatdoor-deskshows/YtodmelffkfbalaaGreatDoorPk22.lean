import Derived.ProofKit
import Derived.OpenShut
import Derived.Deep.Strs
import Derived.HandedShaped
import Derived.Test.YtodmelffkfbalaaGreatDoorRows
import Derived.Test.YtodmelffkfbalaaGreatDoorPk17
import Derived.Stop.LaidErr
import Derived.Test.YtodmelffkfbalaaGreatDoorFbPow
open Go.Obj renaming cells->K
open Go.Proofs.Tryz
namespace Go.Proofs.YtodmelffkfbalaaGreatDoor
open Go.ChangeShapes Go.WideShapes Go.ChangeAt Go.RowKit
theorem Fe:laidOutB prog=true:=by kernel_rfl
def EV {H:Type}(P:Program)(t:TypeId)(d:DataW H):Prop:=∀x∈d.weights P t,x<=reachBytes
theorem Cs {H:Type}{P:Program}{t:TypeId}{ts:List TypeId}{d:DataW H}{ds:List (DataW H)}(h:∀x∈DataW.weightsEach P (t::ts) (d::ds),x<=reachBytes):EV P t d∧∀x∈DataW.weightsEach P ts ds,x<=reachBytes:=by
 rw[DataW.weightsEach] at h;exact⟨fun x hx=>h x (vm _ hx),fun x hx=>h x (List.mem_append_right _ hx)⟩
theorem Rg {H:Type}{P:Program}{a:List TypeId}{b:List (DataW H)}(h:(DataW.weightsEach P a b).all (·<=reachBytes)=true):∀x∈DataW.weightsEach P a b,x<=reachBytes:=fun x c=>by
 simpa using sI.1 h x c
section
variable {H:Type} {enc:TypeId×Value->H} {P:Program} {w:World} {base:Nat} {spare:Nat->Bool} {held:Bool}
theorem Rh {t:TypeId}{fuel:Nat}{cs:List Value}{d:DataW H}{p:List MemPlace}(ht:P.underlying t=some .string)(h:DataW.trod enc P w base spare held fuel t cs=some (d,p))(hL:EV P t d):
 ∃s:ae,cs=[.string s]∧s.size<=reachBytes:=by
 obtain⟨s,h1,h2,h3⟩:=DataW.trod_string ht h;injection h2 with h2 _;subst h2;refine⟨s,h1,?_⟩;have:=hL s.data.toList.length (by rw[DataW.weights];exact lO ..);rwa[cI] at this
end
def Tz {H:Type}(d:DataW H)(n:Nat):Prop:=(d=.nil∧n=0)∨∃elems spare,d=.slice elems spare∧elems.length=n
section
variable {H:Type} {enc:TypeId×Value->H} {P:Program} {w:World} {base:Nat} {held:Bool}
theorem Ok {u e:TypeId}{i:Nat}{q:List Value}{d:DataW H}{p:List MemPlace}(s:P.underlying u=some (.slice e))(t:P.underlying e=some (.int .u8))(v:P.cellsOf e=1)
 (h:DataW.trod enc P w base (fun _=>true) held i u q=some (d,p)) :
 ∃(r:ag) (cap:Nat) (l:ab),q=[.slice r l.length cap]∧az w r cap l∧Tz d l.length:=by
 rcases open_ints s t v h with ⟨f,m⟩ | ⟨a,len,cap,b,f,_,D,_,x,m,g,n⟩
 . injection m with o _;exact⟨none,0,[],f,az.e w,Or.inl ⟨o,rfl⟩⟩
 . simp only[if_true] at x;injection m with o _;have c:((b.take len).map fun z=>UInt8.ofNat z.toNat).length=len:=by rw[iv,bV];omega
   refine⟨some a,cap,(b.take len).map (fun z=>UInt8.ofNat z.toNat),by rw[c];exact f,⟨by omega,(fun h=>by cases h),fun j y=>⟨a,rfl,?_⟩⟩,Or.inr ⟨_,_,o,?_⟩⟩
   . rw[c] at y;have k:j<b.length:=by omega
     rw[g j k];have B:b.getD j 0=b[j]:=by simp[List.getD,k]
     have C:=n b[j] (eX _);have m:0<=b[j]∧b[j]<=255:=by simpa[Lit.wf,IntKind.min,IntKind.max,IntKind.signed,IntKind.bits] using C
     rw[B];simp only[ej,List.getElem_take];have e:((UInt8.ofNat b[j].toNat).toNat:Int)=b[j]:=by
      rw[UInt8.toNat_ofNat'];omega
     rw[e]
   . simp[lits] <;> omega
end
def vj:DataW Unit->List Int
 | .agg l=>l.map fun | .lit (.int _ z)=>z | _=>0
 | _=>[]
def Ss (h:Array Obj):Array Obj :=
 ((((h.modify 1 (fun o=>match o with | K _ t frozen=>K ((vj Rows.laid_internal_strconv_uint64pow10).map fun z=>Value.int .u64 z).toArray t frozen | o=>o)).modify 4 (fun o=>match o with | K _ t frozen=>K (Pinned.utf8FirstZ.map fun n:Nat=>Value.int .u8 (n:Int)).toArray t frozen | o=>o)).modify 5 (fun o=>match o with | K _ t frozen=>K (([128,191,160,191,128,159,144,191,128,143]++List.replicate 22 0).map fun n:Nat=>Value.int .u8 (n:Int)).toArray t frozen | o=>o)).modify 2 (fun o=>match o with | K _ t frozen=>K ((vj Rows.laid_math_bits_deBruijn32tab).map fun z=>Value.int .u8 z).toArray t frozen | o=>o)).modify 3 (fun o=>match o with | K _ t frozen=>K ((vj Rows.laid_math_bits_deBruijn64tab).map fun z=>Value.int .u8 z).toArray t frozen | o=>o)
theorem TY:prog.globalNamed "internal/strconv.uint64pow10"=some 1:=by kernel_rfl
theorem SY:(prog.globals[1]?).map (·.type)=some 360:=by kernel_rfl
theorem SZ:prog.cellsOf 360=20:=by kernel_rfl
theorem St:prog.cellsOf 332=1:=by kernel_rfl
theorem S0:vj Rows.laid_internal_strconv_uint64pow10=Lib.pow10Tab:=by decide +kernel
theorem M2 {W:World}{rest:List (String×DataW Unit)}{x y:String×DataW Unit}(h:laidMet prog (x::y::("internal/strconv.uint64pow10",Rows.laid_internal_strconv_uint64pow10)::rest) W):di W:=by
 have b:laidMet prog (("internal/strconv.uint64pow10",Lib.tabData .u64 (vj Rows.laid_internal_strconv_uint64pow10))::rest) W:=h.tail.tail;have a:=Lib.tabIs_of_head (rest:=rest) TY SY underlying360 underlying332 St SZ b;rw[S0] at a;exact a
