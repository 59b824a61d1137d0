import Derived.Test.YtodmelffkfbalaaGreatDoorPk5
import Derived.Test.YtodmelffkfbalaaGreatDoorPk17
namespace Go.Proofs.YtodmelffkfbalaaGreatDoor
open Go.RowKit
def rZ:Nat ⊕ Int->Value
 | .inl c=>.tuple #[.int .i64 0,.int .i64 (c:Int)]
 | .inr k=>.tuple #[.int .i64 k,.int .i64 0]
def gU (l:aC):List gz:=l.map fun p=>(p.1.data.toList,p.2.data.toList)
theorem A1 (l:aC)(a:ae)(b:be a.data.toList=a.data.toList):dZ (gU l) a.data.toList=(aG a l).map (fun x=>x.data.toList):=by
 unfold dZ gU aG;rw[List.filter_map,List.map_map,List.map_map,b];have e:(fun f:gz=>be f.1==a.data.toList) ∘ (fun p:ae×ae=>(p.1.data.toList,p.2.data.toList))=fun p=>decide (be p.1.data.toList=a.data.toList):=by
  funext p;rw[iM];simp
 rw[e];rfl
def gv:ae:=⟨#[104,111,115,116]⟩
def gn:ae:=⟨#[99,111,110,116,101,110,116,45,108,101,110,103,116,104]⟩
def go:ae:=⟨#[116,114,97,110,115,102,101,114,45,101,110,99,111,100,105,110,103]⟩
theorem wL {a:ae}{l:aC}{v:ae}(h:v∈aG a l):∃p∈l,p.2=v:=by grind [aG]
def Gf (mi:Nat)(H aaM C:List (ab)):Nat ⊕ Int :=
 if 1<H.length∨H.length=0∧mi=1 then .inl 13
 else if C≠[] then
  (if aaM ≠ [] ∨ mi = 0 then .inl 12
   else if C.length≠1∨be (C.headD [])≠uN then .inl 11
   else .inr (-1))
 else match lB (aaM.headD []) 0 aaM with
  | .inl c=>.inl c
  | .inr n=>if 4000<n then .inl 4 else .inr n
theorem OT (h:dg):mr h=Gf h.d (dZ h.a qB) (dZ h.a pz) (dZ h.a pA):=rfl
def bX (vs:List ae):List (ab):=vs.map fun x=>x.data.toList
def co (l:List gz):aC:=l.map fun p=>(⟨p.1.toArray⟩,⟨p.2.toArray⟩)
theorem Gd (l:List gz):gU (co l)=l:=by
 unfold gU co;rw[List.map_map];exact List.map_id' l
theorem uM (l:List gz):(co l).length=l.length:=by simp[co]
theorem FX (a b:List gz):co (a++b)=co a++co b:=by simp[co]
theorem wJ (a b:ae)(l:aC)(h:be a.data.toList=be b.data.toList):aG a l=aG b l:=by
 unfold aG;rw[h]
def pB (aaM:List (ab)):Nat ⊕ Int :=
 match lB (aaM.headD []) 0 aaM with
  | .inl c=>.inl c
  | .inr n=>if 4000<n then .inl 4 else .inr n
def oL (mi:Nat)(aaM C:List (ab)):Nat ⊕ Int :=
 if C≠[] then
  (if aaM ≠ [] ∨ mi = 0 then .inl 12
   else if C.length≠1∨be (C.headD [])≠uN then .inl 11
   else .inr (-1))
 else pB aaM
theorem OK (mi:Nat)(H a C:List (ab)):Gf mi H a C=if 1<H.length∨H.length=0∧mi=1 then .inl 13 else oL mi a C:=rfl
theorem Oz (x:ab):0<=(bB 10 9 x).1∧(bB 10 9 x).1<68719476736:=by
 unfold bB;split
 . exact⟨pH _,by decide⟩
 . split
   . rename_i a b;have c:¬(9:Int)<x.length:=fun e=>a (Or.inr e);exact we 10 (by omega) (by omega) _ b (by omega)
   . exact⟨pH _,by decide⟩
