import Derived.Test.YtodmelffkfbalaaGreatDoorPk5
import Derived.Test.YtodmelffkfbalaaGreatDoorPk17
namespace Go.Proofs.YtodmelffkfbalaaGreatDoor
open Go.RowKit
def sg:Nat ⊕ Int->Value
 | .inl c=>.tuple #[.int .i64 0,.int .i64 (c:Int)]
 | .inr k=>.tuple #[.int .i64 k,.int .i64 0]
def gU (l:aC):List gA:=l.map fun p=>(p.1.data.toList,p.2.data.toList)
theorem AX (l:aC)(a:ae)(b:aY a.data.toList=a.data.toList):ef (gU l) a.data.toList=(aH a l).map (fun x=>x.data.toList):=by
 unfold ef gU aH;rw[List.filter_map,List.map_map,List.map_map,b];have e:(fun f:gA=>aY f.1==a.data.toList) ∘ (fun p:ae×ae=>(p.1.data.toList,p.2.data.toList))=fun p=>decide (aY p.1.data.toList=a.data.toList):=by
  funext p;rw[ix];simp
 rw[e];rfl
def gv:ae:=⟨#[104,111,115,116]⟩
def gw:ae:=⟨#[99,111,110,116,101,110,116,45,108,101,110,103,116,104]⟩
def gx:ae:=⟨#[116,114,97,110,115,102,101,114,45,101,110,99,111,100,105,110,103]⟩
theorem wG {a:ae}{l:aC}{v:ae}(h:v∈aH a l):∃p∈l,p.2=v:=by grind [aH]
def Gk (mi:Nat)(H aaW C:List (ab)):Nat ⊕ Int :=
 if 1<H.length∨H.length=0∧mi=1 then .inl 13
 else if C≠[] then
  (if aaW ≠ [] ∨ mi = 0 then .inl 12
   else if C.length≠1∨aY (C.headD [])≠uP then .inl 11
   else .inr (-1))
 else match lB (aaW.headD []) 0 aaW with
  | .inl c=>.inl c
  | .inr n=>if 4000<n then .inl 4 else .inr n
theorem O4 (h:df):mr h=Gk h.d (ef h.a qE) (ef h.a pG) (ef h.a pH):=rfl
def bU (vs:List ae):List (ab):=vs.map fun x=>x.data.toList
def cf (l:List gA):aC:=l.map fun p=>(⟨p.1.toArray⟩,⟨p.2.toArray⟩)
theorem Gi (l:List gA):gU (cf l)=l:=by
 unfold gU cf;rw[List.map_map];exact List.map_id' l
theorem uO (l:List gA):(cf l).length=l.length:=by simp[cf]
theorem F3 (a b:List gA):cf (a++b)=cf a++cf b:=by simp[cf]
theorem wB (a b:ae)(l:aC)(h:aY a.data.toList=aY b.data.toList):aH a l=aH b l:=by
 unfold aH;rw[h]
def pI (aaW:List (ab)):Nat ⊕ Int :=
 match lB (aaW.headD []) 0 aaW with
  | .inl c=>.inl c
  | .inr n=>if 4000<n then .inl 4 else .inr n
def oS (mi:Nat)(aaW C:List (ab)):Nat ⊕ Int :=
 if C≠[] then
  (if aaW ≠ [] ∨ mi = 0 then .inl 12
   else if C.length≠1∨aY (C.headD [])≠uP then .inl 11
   else .inr (-1))
 else pI aaW
theorem OW (mi:Nat)(H a C:List (ab)):Gk mi H a C=if 1<H.length∨H.length=0∧mi=1 then .inl 13 else oS mi a C:=rfl
theorem OK (x:ab):0<=(bB 10 9 x).1∧(bB 10 9 x).1<68719476736:=by
 unfold bB;split
 . exact⟨pO _,by decide⟩
 . split
   . rename_i a b;have c:¬(9:Int)<x.length:=fun e=>a (Or.inr e);exact wi 10 (by omega) (by omega) _ b (by omega)
   . exact⟨pO _,by decide⟩
