/- Small texts, one behind the other: RowKit0, RowKitI, RowKitF, RowKitL, RowKitH, RowKitE, RowKitTU. -/
import Derived.Test.YtjmndjmhjleabaaGreatDoorAl
import Derived.Test.YtjmndjmhjleabaaGreatDoorAm
import Derived.Test.YtjmndjmhjleabaaGreatDoorProg
import Derived.ProofKit
import Derived.OpenShut
import Derived.Test.YtjmndjmhjleabaaGreatDoorPk1
import Derived.Deep.Strs
import Derived.HandedShaped
import Derived.Test.YtjmndjmhjleabaaGreatDoorRows
import Derived.Test.YtjmndjmhjleabaaGreatDoorPk10
import Derived.Lib.LaidTab
import Derived.Stop.LaidErr
import Derived.Test.YtjmndjmhjleabaaGreatDoorPk45
open Go.Proofs.Tryz
namespace Go.Proofs.YtjmndjmhjleabaaGreatDoor
open Go.ChangeShapes Go.WideShapes Go.ChangeAt Go.RowKit
theorem FN:laidOutB prog=true:=by kernel_rfl
theorem UE:prog.cellsOf 3=1:=by kernel_rfl
theorem P7 {H:Type}{enc:TypeId×Value->H}{W:World}{fuel:Nat}{a0:ak}{len cap:Nat}{d:DataW H}{p:List MemPlace}
 (hf:DataW.trod enc prog W 0 (fun _=>true) true fuel 55 (Value.slice a0 len cap).cells.toList=some (d,p)) :
 ∃l:List Int,l.length=len∧jo W a0 cap len (l.map fun c=>Value.int .i64 c):=by
 rcases open_ints underlying55 underlying3 UE hf with ⟨hcs,_⟩ | ⟨a,len',cap',zs,hcs,_,hl,_,hz,_,hcell,_⟩
 . simp[Value.cells] at hcs;obtain⟨rfl,rfl,rfl⟩:=hcs;exact⟨[],rfl,jo.nil W⟩
 . simp[Value.cells] at hcs;obtain⟨rfl,rfl,rfl⟩:=hcs;simp only[if_true] at hz;have hlen:(zs.take len).length=len:=by rw[bY];omega
   refine⟨zs.take len,hlen,⟨by omega,(fun h=>by cases h),fun j u hj=>⟨a,rfl,?_⟩⟩⟩;rw[dB] at hj;have hjl:j<(zs.take len).length:=by
    rcases aU j (zs.take len).length with g | g
    . exact g
    . rw[eU g] at hj;cases hj
   rw[dD hjl] at hj;have hj':j<zs.length:=by omega
   rw[hcell j hj',<-Option.some.inj hj];simp[List.getD,hj']
def Light {H:Type}(P:Program)(t:TypeId)(d:DataW H):Prop:=∀x∈d.weights P t,x<=reachBytes
theorem wY {H:Type}{P:Program}{t:TypeId}{ts:List TypeId}{d:DataW H}{ds:List (DataW H)}(h:∀x∈DataW.weightsEach P (t::ts) (d::ds),x<=reachBytes):Light P t d∧∀x∈DataW.weightsEach P ts ds,x<=reachBytes:=by
 rw[DataW.weightsEach] at h;exact⟨fun x hx=>h x (bJ _ hx),fun x hx=>h x (dS _ hx)⟩
theorem UF {H:Type}{P:Program}{ts:List TypeId}{ds:List (DataW H)}(h:(DataW.weightsEach P ts ds).all (·<=reachBytes)=true):∀x∈DataW.weightsEach P ts ds,x<=reachBytes:=fun x hx=>by
 simpa using dN.1 h x hx
theorem UG {H:Type}{P:Program}{t e:TypeId}(ht:P.underlying t=some (.slice e)){elems spare:List (DataW H)}(h:Light P t (.slice elems spare)):(elems.length+spare.length)*P.bytesOf e<=reachBytes:=by
 refine h _ ?_;rw[DataW.weights,ht];exact cK ..
section
end
def agW {H:Type}(d:DataW H)(n:Nat):Prop:=(d=.nil∧n=0)∨∃elems spare,d=.slice elems spare∧elems.length=n
section
variable {H:Type} {enc:TypeId×Value->H} {P:Program} {w:World} {base:Nat} {held:Bool}
theorem FP {u e:TypeId}{fuel:Nat}{cs:List Value}{d:DataW H}{p:List MemPlace}(hu:P.underlying u=some (.slice e))(he:P.underlying e=some (.int .u8))(hc:P.cellsOf e=1)
 (h:DataW.trod enc P w base (fun _=>true) held fuel u cs=some (d,p)) :
 ∃(a0:ak) (cap:Nat) (l:av),cs=[.slice a0 l.length cap]∧iH w a0 cap l∧agW d l.length:=by
 rcases open_ints hu he hc h with ⟨hcs,hx⟩ | ⟨a,len,cap,zs,hcs,_,hl,_,hz,hx,hcell,hwz⟩
 . injection hx with hd _;exact⟨none,0,[],hcs,iH.nil w,Or.inl ⟨hd,rfl⟩⟩
 . simp only[if_true] at hz;injection hx with hd _;have hlen:((zs.take len).map fun z=>UInt8.ofNat z.toNat).length=len:=by rw[aF,bY];omega
   refine⟨some a,cap,(zs.take len).map (fun z=>UInt8.ofNat z.toNat),by rw[hlen];exact hcs,⟨by omega,(fun h=>by cases h),fun j hj=>⟨a,rfl,?_⟩⟩,Or.inr ⟨_,_,hd,?_⟩⟩
   . rw[hlen] at hj;have hj':j<zs.length:=by omega
     rw[hcell j hj'];have hg:zs.getD j 0=zs[j]:=by simp[List.getD,hj']
     have hw:=hwz zs[j] (aC _);have hx:0<=zs[j]∧zs[j]<=255:=by simpa[Lit.wf,IntKind.min,IntKind.max,IntKind.signed,IntKind.bits] using hw
     rw[hg];simp only[aG,List.getElem_take];have e:((UInt8.ofNat zs[j].toNat).toNat:Int)=zs[j]:=by
      rw[UInt8.toNat_ofNat'];omega
     rw[e]
   . simp[lits] <;> omega
end
variable {H:Type} {enc:TypeId×Value->H} {P:Program} {w:World} {base:Nat} {held:Bool}
theorem FQ {u t:TypeId}{fuel:Nat}{a0:ak}{len cap k:Nat}{d:DataW H}{p:List MemPlace}(hu:P.underlying u=some (.slice t))(hb:P.bytesOf t=k)(h:DataW.trod enc P w base (fun _=>true) held fuel u [.slice a0 len cap]=some (d,p))(hL:Light P u d):len*k<=reachBytes:=by
 rcases Go.Deep.open_slice hu h with ⟨hcs,_⟩ | ⟨a,len',cap',m,n,D,Pl,hcs,_,hl,_,hm,hx,hcell⟩
 . simp at hcs;obtain⟨rfl,rfl,rfl⟩:=hcs;rw[aZ];exact aA _
 . simp at hcs;obtain⟨rfl,rfl,rfl⟩:=hcs;simp only[if_true] at hm;subst hm;injection hx with hd _;subst hd;have:=UG hu hL;rw[hb] at this;simp at this;refine dG (Nat.mul_le_mul_right k ?_) this;omega
end Go.Proofs.YtjmndjmhjleabaaGreatDoor
namespace Go.Proofs.YtjmndjmhjleabaaGreatDoor
open Go.ChangeShapes Go.WideShapes Go.ChangeAt Go.RowKit
def Yl:DataW Unit->List Int
 | .agg l=>l.map fun | .lit (.int _ z)=>z | _=>0
 | _=>[]
def Ym (h:Array Obj):Array Obj :=
 ((((h.modify 1 (fun o=>match o with | .cells _ t frozen=>.cells ((Yl Rows.laid_internal_strconv_uint64pow10).map fun z=>Value.int .u64 z).toArray t frozen | o=>o)).modify 4 (fun o=>match o with | .cells _ t frozen=>.cells (Pinned.utf8FirstZ.map fun n:Nat=>Value.int .u8 (n:Int)).toArray t frozen | o=>o)).modify 5 (fun o=>match o with | .cells _ t frozen=>.cells (([128,191,160,191,128,159,144,191,128,143]++List.replicate 22 0).map fun n:Nat=>Value.int .u8 (n:Int)).toArray t frozen | o=>o)).modify 2 (fun o=>match o with | .cells _ t frozen=>.cells ((Yl Rows.laid_math_bits_deBruijn32tab).map fun z=>Value.int .u8 z).toArray t frozen | o=>o)).modify 3 (fun o=>match o with | .cells _ t frozen=>.cells ((Yl Rows.laid_math_bits_deBruijn64tab).map fun z=>Value.int .u8 z).toArray t frozen | o=>o)
end Go.Proofs.YtjmndjmhjleabaaGreatDoor
namespace Go.Proofs.YtjmndjmhjleabaaGreatDoor
open Go.ChangeShapes Go.WideShapes Go.ChangeAt Go.RowKit
theorem gPw:prog.globalNamed "internal/strconv.uint64pow10"=some 1:=by kernel_rfl
theorem aaz:(prog.globals[1]?).map (·.type)=some 305:=by kernel_rfl
theorem aaA:prog.cellsOf 305=20:=by kernel_rfl
theorem Yn:prog.cellsOf 277=1:=by kernel_rfl
theorem aaB:Yl Rows.laid_internal_strconv_uint64pow10=Lib.pow10Tab:=by decide +kernel
theorem MS {W:World}{rest:List (String×DataW Unit)}{x y:String×DataW Unit}(h:laidMet prog (x::y::("internal/strconv.uint64pow10",Rows.laid_internal_strconv_uint64pow10)::rest) W):nA W:=by
 have h1:laidMet prog (("internal/strconv.uint64pow10",Lib.tabData .u64 (Yl Rows.laid_internal_strconv_uint64pow10))::rest) W:=h.tail.tail;have h2:=Lib.tabIs_of_head (rest:=rest) gPw aaz underlying305 underlying277 Yn aaA h1;rw[aaB] at h2;exact h2
end Go.Proofs.YtjmndjmhjleabaaGreatDoor