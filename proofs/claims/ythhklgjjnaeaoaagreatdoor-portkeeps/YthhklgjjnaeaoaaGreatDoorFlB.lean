/- Fields as they lie in memory, as plain bytes; a body's length by the values of its head's fields. -/
import Derived.Test.YthhklgjjnaeaoaaGreatDoorPk8
import Derived.Test.YthhklgjjnaeaoaaGreatDoorPk17
namespace Go.Proofs.YthhklgjjnaeaoaaGreatDoor
open Go.RowKit
def Rq.lenVal:Nat ⊕ Int->Value
 | .inl c=>.tuple #[.int .i64 0,.int .i64 (c:Int)]
 | .inr k=>.tuple #[.int .i64 k,.int .i64 0]
def Rq.EZ (l:au):List Rq.Fl:=l.map fun p=>(p.1.data.toList,p.2.data.toList)
theorem Rq.Dz (l:au)(a:ay)(b:Ch.lower a.data.toList=a.data.toList):Rq.vals (Rq.EZ l) a.data.toList=(Fd.vals a l).map (fun x=>x.data.toList):=by
 unfold Rq.vals Rq.EZ Fd.vals;rw[List.filter_map,List.map_map,List.map_map,b];have e:(fun f:Rq.Fl=>Ch.lower f.1==a.data.toList) ∘ (fun p:ay×ay=>(p.1.data.toList,p.2.data.toList))=fun p=>decide (Ch.lower p.1.data.toList=a.data.toList):=by
  funext p;rw[aH];simp
 rw[e];rfl
def lV:ay:=⟨#[104,111,115,116]⟩
def lW:ay:=⟨#[99,111,110,116,101,110,116,45,108,101,110,103,116,104]⟩
def lX:ay:=⟨#[116,114,97,110,115,102,101,114,45,101,110,99,111,100,105,110,103]⟩
theorem Fd.za {a:ay}{l:au}{v:ay}(h:v∈Fd.vals a l):∃p∈l,p.2=v:=by grind [Fd.vals]
def Rq.lenOf (mi:Nat)(H aam C:List (av)):Nat ⊕ Int :=
 if 1<H.length∨H.length=0∧mi=1 then .inl 13
 else if C≠[] then
  (if aam ≠ [] ∨ mi = 0 then .inl 12
   else if C.length≠1∨Ch.lower (C.headD [])≠Rq.vw then .inl 11
   else .inr (-1))
 else match Rq.sizes (aam.headD []) 0 aam with
  | .inl c=>.inl c
  | .inr n=>if 4000<n then .inl 4 else .inr n
theorem Rq.len_eq (h:Rq.Hd):Rq.len h=Rq.lenOf h.minor (Rq.vals h.fields Rq.nHost) (Rq.vals h.fields Rq.CY) (Rq.vals h.fields Rq.CZ):=rfl
def Rq.lists (vs:List ay):List (av):=vs.map fun x=>x.data.toList
def Rq.nu (l:List Rq.Fl):au:=l.map fun p=>(⟨p.1.toArray⟩,⟨p.2.toArray⟩)
theorem Rq.Qg (l:List Rq.Fl):Rq.EZ (Rq.nu l)=l:=by
 unfold Rq.EZ Rq.nu;rw[List.map_map];exact List.map_id' l
theorem Rq.qI (l:List Rq.Fl):(Rq.nu l).length=l.length:=by simp[Rq.nu]
theorem Rq.DC (a b:List Rq.Fl):Rq.nu (a++b)=Rq.nu a++Rq.nu b:=by simp[Rq.nu]
theorem Fd.kQ (a b:ay)(l:au)(h:Ch.lower a.data.toList=Ch.lower b.data.toList):Fd.vals a l=Fd.vals b l:=by
 unfold Fd.vals;rw[h]
def Rq.rC (aam:List (av)):Nat ⊕ Int :=
 match Rq.sizes (aam.headD []) 0 aam with
  | .inl c=>.inl c
  | .inr n=>if 4000<n then .inl 4 else .inr n
def Rq.ze (mi:Nat)(aam C:List (av)):Nat ⊕ Int :=
 if C≠[] then
  (if aam ≠ [] ∨ mi = 0 then .inl 12
   else if C.length≠1∨Ch.lower (C.headD [])≠Rq.vw then .inl 11
   else .inr (-1))
 else Rq.rC aam
theorem Rq.V8 (mi:Nat)(H a C:List (av)):Rq.lenOf mi H a C=if 1<H.length∨H.length=0∧mi=1 then .inl 13 else Rq.ze mi a C:=rfl
theorem Rq.Iu (x:av):0<=(Ch.number 10 9 x).1∧(Ch.number 10 9 x).1<68719476736:=by
 unfold Ch.number;split
 . exact⟨aB _,by decide⟩
 . split
   . rename_i a b;have c:¬(9:Int)<x.length:=fun e=>a (Or.inr e);exact Ch.qX 10 (by omega) (by omega) _ b (by omega)
   . exact⟨aB _,by decide⟩
end Go.Proofs.YthhklgjjnaeaoaaGreatDoor