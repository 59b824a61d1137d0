import Derived.Test.YtmbghcpcbdjfoaaGreatDoorPk5
import Derived.Test.YtmbghcpcbdjfoaaGreatDoorPk15
namespace Go.Proofs.YtmbghcpcbdjfoaaGreatDoor
open Go.RowKit
def op:Nat ⊕ Int->Value
 | .inl c=>.tuple #[.int .i64 0,.int .i64 (c:Int)]
 | .inr k=>.tuple #[.int .i64 k,.int .i64 0]
def fN (l:aC):List dR:=l.map fun p=>(p.1.data.toList,p.2.data.toList)
theorem tf (l:aC)(a:ag)(b:aU a.data.toList=a.data.toList):bU (fN l) a.data.toList=(aE a l).map (fun x=>x.data.toList):=by
 unfold bU fN aE;rw[List.filter_map,List.map_map,List.map_map,b];have e:(fun f:dR=>aU f.1==a.data.toList) ∘ (fun p:ag×ag=>(p.1.data.toList,p.2.data.toList))=fun p=>decide (aU p.1.data.toList=a.data.toList):=by
  funext p;rw[ik];simp
 rw[e];rfl
def eQ:ag:=⟨#[104,111,115,116]⟩
def fg:ag:=⟨#[99,111,110,116,101,110,116,45,108,101,110,103,116,104]⟩
def fh:ag:=⟨#[116,114,97,110,115,102,101,114,45,101,110,99,111,100,105,110,103]⟩
theorem uM {a:ag}{l:aC}{v:ag}(h:v∈aE a l):∃p∈l,p.2=v:=by grind [aE]
def nF (mi:Nat)(H aar C:List (ae)):Nat ⊕ Int :=
 if 1<H.length∨H.length=0∧mi=1 then .inl 13
 else if C≠[] then
  (if aar ≠ [] ∨ mi = 0 then .inl 12
   else if C.length≠1∨aU (C.headD [])≠pZ then .inl 11
   else .inr (-1))
 else match gm (aar.headD []) 0 aar with
  | .inl c=>.inl c
  | .inr n=>if 4000<n then .inl 4 else .inr n
theorem GP (h:cf):gC h=nF h.e (bU h.a mJ) (bU h.a le) (bU h.a lg):=rfl
def aZ (vs:List ag):List (ae):=vs.map fun x=>x.data.toList
def bL (l:List dR):aC:=l.map fun p=>(⟨p.1.toArray⟩,⟨p.2.toArray⟩)
theorem BG (l:List dR):fN (bL l)=l:=by
 unfold fN bL;rw[List.map_map];exact List.map_id' l
theorem om (l:List dR):(bL l).length=l.length:=by simp[bL]
theorem BQ (a b:List dR):bL (a++b)=bL a++bL b:=by simp[bL]
theorem xr (a b:ag)(l:aC)(h:aU a.data.toList=aU b.data.toList):aE a l=aE b l:=by
 unfold aE;rw[h]
def qa (aar:List (ae)):Nat ⊕ Int :=
 match gm (aar.headD []) 0 aar with
  | .inl c=>.inl c
  | .inr n=>if 4000<n then .inl 4 else .inr n
def pb (mi:Nat)(aar C:List (ae)):Nat ⊕ Int :=
 if C≠[] then
  (if aar ≠ [] ∨ mi = 0 then .inl 12
   else if C.length≠1∨aU (C.headD [])≠pZ then .inl 11
   else .inr (-1))
 else qa aar
theorem PI (mi:Nat)(H a C:List (ae)):nF mi H a C=if 1<H.length∨H.length=0∧mi=1 then .inl 13 else pb mi a C:=rfl
theorem Pq (x:ae):0<=(bB 10 9 x).1∧(bB 10 9 x).1<68719476736:=by
 unfold bB;split
 . exact⟨ly _,by decide⟩
 . split
   . rename_i a b;have c:¬(9:Int)<x.length:=fun e=>a (Or.inr e);exact sj 10 (by omega) (by omega) _ b (by omega)
   . exact⟨ly _,by decide⟩
