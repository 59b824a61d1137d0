import Derived.ProofKit
import Derived.OpenShut
import Derived.Deep.Strs
import Derived.HandedShaped
import Derived.Test.YtodmelffkfbalaaGreatDoorRows
import Derived.Test.YtodmelffkfbalaaGreatDoorPk17
import Derived.Stop.LaidErr
import Derived.Test.YtodmelffkfbalaaGreatDoorFbPow
open Go.Obj renaming cells->K
open Go.Proofs.Tryz
namespace Go.Proofs.YtodmelffkfbalaaGreatDoor
open Go.ChangeShapes Go.WideShapes Go.ChangeAt Go.RowKit
theorem E5:laidOutB prog=true:=by kernel_rfl
def xh {H:Type}(P:Program)(t:TypeId)(d:DataW H):Prop:=∀x∈d.weights P t,x<=reachBytes
theorem BX {H:Type}{P:Program}{t:TypeId}{ts:List TypeId}{d:DataW H}{ds:List (DataW H)}(h:∀x∈DataW.weightsEach P (t::ts) (d::ds),x<=reachBytes):xh P t d∧∀x∈DataW.weightsEach P ts ds,x<=reachBytes:=by
 rw[DataW.weightsEach] at h;exact⟨fun x hx=>h x (qT _ hx),fun x hx=>h x (xT _ hx)⟩
theorem Q8 {H:Type}{P:Program}{a:List TypeId}{b:List (DataW H)}(h:(DataW.weightsEach P a b).all (·<=reachBytes)=true):∀x∈DataW.weightsEach P a b,x<=reachBytes:=fun x c=>by
 simpa using sE.1 h x c
theorem Q9 {H:Type}{P:Program}{e:TypeId}{l:List (DataW H)}{d:DataW H}(hd:d∈l):∀x∈d.weights P e,x∈DataW.weightsAll P e l:=by
 induction l with
 | nil=>cases hd
 | cons a t c =>
   intro x b;rw[DataW.weightsAll];rcases fS.1 hd with rfl | hd
   . exact qT _ b
   . exact xT _ (c hd x b)
theorem Oa {H:Type}{P:Program}{t e:TypeId}(ht:P.underlying t=some (.slice e)){elems spare:List (DataW H)}(h:xh P t (.slice elems spare)){d:DataW H}(hd:d∈elems):xh P e d:=by
 intro x hx;refine h x ?_;rw[DataW.weights,ht];exact iw _ (qT _ (Q9 hd x hx))
theorem Ra:prog.cellsOf 9=1:=by kernel_rfl
theorem Ob {H:Type}{enc:TypeId×Value->H}{W:World}{fuel:Nat}{a0:ag}{len cap:Nat}{d:DataW H}{p:List MemPlace}
 (hf:DataW.trod enc prog W 0 (fun _=>true) true fuel 100 (Value.slice a0 len cap).cells.toList=some (d,p)) (hL:xh prog 100 d) :
 ∃l:List ae,l.length=len∧bq W a0 cap l.length (fi l)∧∀s∈l,s.size<=reachBytes:=by
 rcases Go.Deep.open_strs underlying100 underlying9 Ra hf with ⟨hcs,_⟩ | ⟨a,len',cap',m,Sx,hcs,_,hl,_,hm,hx,hcell⟩
 . simp[Value.cells] at hcs;obtain⟨rfl,rfl,rfl⟩:=hcs;exact⟨[],rfl,bq.r W,fun s hs=>by cases hs⟩
 . simp[Value.cells] at hcs;obtain⟨rfl,rfl,rfl⟩:=hcs;simp only[if_true] at hm;subst hm;injection hx with hd _;subst hd;have hlen:((List.range len).map Sx).length=len:=by simp
   refine⟨(List.range len).map Sx,hlen,⟨by omega,(fun h=>by cases h),fun j u hj=>⟨a,rfl,?_⟩⟩,fun s hs=>?_⟩
   . have hlt:j<len:=by
      have:=(fe.1 hj).1;rwa[oR,hlen] at this
     rw[pV _ j (by omega)] at hj;injection hj with hj;subst hj;rw[(hcell j (by omega)).1];simp
   . obtain⟨j,hj,rfl⟩:=my.1 hs;have:=Oa underlying100 hL (d:=.lit (.string (Sx j).data.toList)) (my.2 ⟨j,hj,rfl⟩) (Sx j).data.toList.length (by rw[DataW.weights];exact lM ..);rwa[cJ] at this
def vf:DataW Unit->List Int
 | .agg l=>l.map fun | .lit (.int _ z)=>z | _=>0
 | _=>[]
def Sq (h:Array Obj):Array Obj :=
 ((((h.modify 1 (fun o=>match o with | K _ t frozen=>K ((vf Rows.laid_internal_strconv_uint64pow10).map fun z=>Value.int .u64 z).toArray t frozen | o=>o)).modify 4 (fun o=>match o with | K _ t frozen=>K (Pinned.utf8FirstZ.map fun n:Nat=>Value.int .u8 (n:Int)).toArray t frozen | o=>o)).modify 5 (fun o=>match o with | K _ t frozen=>K (([128,191,160,191,128,159,144,191,128,143]++List.replicate 22 0).map fun n:Nat=>Value.int .u8 (n:Int)).toArray t frozen | o=>o)).modify 2 (fun o=>match o with | K _ t frozen=>K ((vf Rows.laid_math_bits_deBruijn32tab).map fun z=>Value.int .u8 z).toArray t frozen | o=>o)).modify 3 (fun o=>match o with | K _ t frozen=>K ((vf Rows.laid_math_bits_deBruijn64tab).map fun z=>Value.int .u8 z).toArray t frozen | o=>o)
theorem TU:prog.globalNamed "internal/strconv.uint64pow10"=some 1:=by kernel_rfl
theorem SW:(prog.globals[1]?).map (·.type)=some 360:=by kernel_rfl
theorem SX:prog.cellsOf 360=20:=by kernel_rfl
theorem Ss:prog.cellsOf 332=1:=by kernel_rfl
theorem SY:vf Rows.laid_internal_strconv_uint64pow10=Lib.pow10Tab:=by decide +kernel
theorem Mz {W:World}{rest:List (String×DataW Unit)}{x y:String×DataW Unit}(h:laidMet prog (x::y::("internal/strconv.uint64pow10",Rows.laid_internal_strconv_uint64pow10)::rest) W):dj W:=by
 have b:laidMet prog (("internal/strconv.uint64pow10",Lib.tabData .u64 (vf Rows.laid_internal_strconv_uint64pow10))::rest) W:=h.tail.tail;have a:=Lib.tabIs_of_head (rest:=rest) TU SW underlying360 underlying332 Ss SX b;rw[SY] at a;exact a
