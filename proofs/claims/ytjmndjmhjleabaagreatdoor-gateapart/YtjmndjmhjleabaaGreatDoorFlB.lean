/- Fields as they lie in memory, as plain bytes; a body's length by the values of its head's fields. -/
import Derived.Test.YtjmndjmhjleabaaGreatDoorAl
import Derived.Test.YtjmndjmhjleabaaGreatDoorPk8
import Derived.Test.YtjmndjmhjleabaaGreatDoorPk17
namespace Go.Proofs.YtjmndjmhjleabaaGreatDoor
open Go.RowKit
def Rq.lenVal:Nat ⊕ Int->Value
 | .inl c=>.tuple #[.int .i64 0,.int .i64 (c:Int)]
 | .inr k=>.tuple #[.int .i64 k,.int .i64 0]
def Rq.V5 (l:au):List Rq.Fl:=l.map fun p=>(p.1.data.toList,p.2.data.toList)
theorem Rq.wB (l:au)(name:ay)(hn:Ch.lower name.data.toList=name.data.toList):Rq.vals (Rq.V5 l) name.data.toList=(Fd.vals name l).map (fun x=>x.data.toList):=by
 unfold Rq.vals Rq.V5 Fd.vals;rw[List.filter_map,List.map_map,List.map_map,hn];have e:(fun f:Rq.Fl=>Ch.lower f.1==name.data.toList) ∘ (fun p:ay×ay=>(p.1.data.toList,p.2.data.toList))=fun p=>decide (Ch.lower p.1.data.toList=name.data.toList):=by
  funext p;rw[aH];simp
 rw[e];rfl
def rR:ay:=⟨#[104,111,115,116]⟩
def qp:ay:=⟨#[99,111,110,116,101,110,116,45,108,101,110,103,116,104]⟩
def qw:ay:=⟨#[116,114,97,110,115,102,101,114,45,101,110,99,111,100,105,110,103]⟩
theorem Fd.wD {name:ay}{l:au}{v:ay}(h:v∈Fd.vals name l):∃p∈l,p.2=v:=by
 unfold Fd.vals at h;obtain⟨p,hp,e⟩:=aN.1 h;exact⟨p,(List.mem_filter.1 hp).1,e⟩
def Rq.lenOf (mi:Nat)(H V C:List (av)):Nat ⊕ Int :=
 if 1<H.length∨H.length=0∧mi=1 then .inl 13
 else if C≠[] then
  (if V ≠ [] ∨ mi = 0 then .inl 12
   else if C.length≠1∨Ch.lower (C.headD [])≠Rq.pJ then .inl 11
   else .inr (-1))
 else match Rq.sizes (V.headD []) 0 V with
  | .inl c=>.inl c
  | .inr n=>if 4000<n then .inl 4 else .inr n
theorem Rq.len_eq (h:Rq.Hd):Rq.len h=Rq.lenOf h.minor (Rq.vals h.fields Rq.nHost) (Rq.vals h.fields Rq.Kz) (Rq.vals h.fields Rq.KA):=rfl
def Rq.lists (vs:List ay):List (av):=vs.map fun x=>x.data.toList
def Rq.ny (l:List Rq.Fl):au:=l.map fun p=>(⟨p.1.toArray⟩,⟨p.2.toArray⟩)
theorem Rq.Jm (l:List Rq.Fl):Rq.V5 (Rq.ny l)=l:=by
 unfold Rq.V5 Rq.ny;rw[List.map_map];exact List.map_id' l
theorem Rq.kV (l:List Rq.Fl):(Rq.ny l).length=l.length:=by simp[Rq.ny]
theorem Rq.yP (a b:List Rq.Fl):Rq.ny (a++b)=Rq.ny a++Rq.ny b:=by simp[Rq.ny]
theorem Fd.lg (a b:ay)(l:au)(h:Ch.lower a.data.toList=Ch.lower b.data.toList):Fd.vals a l=Fd.vals b l:=by
 unfold Fd.vals;rw[h]
def Rq.sN (V:List (av)):Nat ⊕ Int :=
 match Rq.sizes (V.headD []) 0 V with
  | .inl c=>.inl c
  | .inr n=>if 4000<n then .inl 4 else .inr n
def Rq.zK (mi:Nat)(V C:List (av)):Nat ⊕ Int :=
 if C≠[] then
  (if V ≠ [] ∨ mi = 0 then .inl 12
   else if C.length≠1∨Ch.lower (C.headD [])≠Rq.pJ then .inl 11
   else .inr (-1))
 else Rq.sN V
theorem Rq.V6 (mi:Nat)(H V C:List (av)):Rq.lenOf mi H V C=if 1<H.length∨H.length=0∧mi=1 then .inl 13 else Rq.zK mi V C:=rfl
theorem Rq.Jo (x:av):0<=(Ch.number 10 9 x).1∧(Ch.number 10 9 x).1<68719476736:=by
 unfold Ch.number;split
 . exact⟨aB _,by decide⟩
 . split
   . rename_i h1 h2;have hl9:¬(9:Int)<x.length:=fun e=>h1 (Or.inr e);exact Ch.mH 10 (by omega) (by omega) _ h2 (by omega)
   . exact⟨aB _,by decide⟩
end Go.Proofs.YtjmndjmhjleabaaGreatDoor