/- Fields as they lie in memory, as plain bytes; a body's length by the values of its head's fields. -/
import Derived.Test.YthhklgjjnaeaoaaGreatDoorPk8
import Derived.Test.YthhklgjjnaeaoaaGreatDoorPk17
namespace Go.Proofs.YthhklgjjnaeaoaaGreatDoor
open Go.RowKit
def Rq.lenVal:Nat ⊕ Int->Value
 | .inl c=>.tuple #[.int .i64 0,.int .i64 (c:Int)]
 | .inr k=>.tuple #[.int .i64 k,.int .i64 0]
def Rq.E8 (l:au):List Rq.Fl:=l.map fun p=>(p.1.data.toList,p.2.data.toList)
theorem Rq.Dx (l:au)(a:ay)(b:Ch.lower a.data.toList=a.data.toList):Rq.vals (Rq.E8 l) a.data.toList=(Fd.vals a l).map (fun x=>x.data.toList):=by
 unfold Rq.vals Rq.E8 Fd.vals;rw[List.filter_map,List.map_map,List.map_map,b];have e:(fun f:Rq.Fl=>Ch.lower f.1==a.data.toList) ∘ (fun p:ay×ay=>(p.1.data.toList,p.2.data.toList))=fun p=>decide (Ch.lower p.1.data.toList=a.data.toList):=by
  funext p;rw[aH];simp
 rw[e];rfl
def lW:ay:=⟨#[104,111,115,116]⟩
def lX:ay:=⟨#[99,111,110,116,101,110,116,45,108,101,110,103,116,104]⟩
def lY:ay:=⟨#[116,114,97,110,115,102,101,114,45,101,110,99,111,100,105,110,103]⟩
theorem Fd.yZ {a:ay}{l:au}{v:ay}(h:v∈Fd.vals a l):∃p∈l,p.2=v:=by grind [Fd.vals]
def Rq.lenOf (mi:Nat)(H aal C:List (av)):Nat ⊕ Int :=
 if 1<H.length∨H.length=0∧mi=1 then .inl 13
 else if C≠[] then
  (if aal ≠ [] ∨ mi = 0 then .inl 12
   else if C.length≠1∨Ch.lower (C.headD [])≠Rq.vB then .inl 11
   else .inr (-1))
 else match Rq.sizes (aal.headD []) 0 aal with
  | .inl c=>.inl c
  | .inr n=>if 4000<n then .inl 4 else .inr n
theorem Rq.len_eq (h:Rq.Hd):Rq.len h=Rq.lenOf h.minor (Rq.vals h.fields Rq.nHost) (Rq.vals h.fields Rq.CW) (Rq.vals h.fields Rq.CX):=rfl
def Rq.lists (vs:List ay):List (av):=vs.map fun x=>x.data.toList
def Rq.nu (l:List Rq.Fl):au:=l.map fun p=>(⟨p.1.toArray⟩,⟨p.2.toArray⟩)
theorem Rq.Qf (l:List Rq.Fl):Rq.E8 (Rq.nu l)=l:=by
 unfold Rq.E8 Rq.nu;rw[List.map_map];exact List.map_id' l
theorem Rq.qF (l:List Rq.Fl):(Rq.nu l).length=l.length:=by simp[Rq.nu]
theorem Rq.Dy (a b:List Rq.Fl):Rq.nu (a++b)=Rq.nu a++Rq.nu b:=by simp[Rq.nu]
theorem Fd.kP (a b:ay)(l:au)(h:Ch.lower a.data.toList=Ch.lower b.data.toList):Fd.vals a l=Fd.vals b l:=by
 unfold Fd.vals;rw[h]
def Rq.ru (aal:List (av)):Nat ⊕ Int :=
 match Rq.sizes (aal.headD []) 0 aal with
  | .inl c=>.inl c
  | .inr n=>if 4000<n then .inl 4 else .inr n
def Rq.za (mi:Nat)(aal C:List (av)):Nat ⊕ Int :=
 if C≠[] then
  (if aal ≠ [] ∨ mi = 0 then .inl 12
   else if C.length≠1∨Ch.lower (C.headD [])≠Rq.vB then .inl 11
   else .inr (-1))
 else Rq.ru aal
theorem Rq.V8 (mi:Nat)(H a C:List (av)):Rq.lenOf mi H a C=if 1<H.length∨H.length=0∧mi=1 then .inl 13 else Rq.za mi a C:=rfl
theorem Rq.Iu (x:av):0<=(Ch.number 10 9 x).1∧(Ch.number 10 9 x).1<68719476736:=by
 unfold Ch.number;split
 . exact⟨aB _,by decide⟩
 . split
   . rename_i a b;have c:¬(9:Int)<x.length:=fun e=>a (Or.inr e);exact Ch.qU 10 (by omega) (by omega) _ b (by omega)
   . exact⟨aB _,by decide⟩
end Go.Proofs.YthhklgjjnaeaoaaGreatDoor