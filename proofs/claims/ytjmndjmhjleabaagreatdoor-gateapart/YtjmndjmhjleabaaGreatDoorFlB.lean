/- Fields as they lie in memory, as plain bytes; a body's length by the values of its head's fields. -/
import Derived.Test.YtjmndjmhjleabaaGreatDoorAl
import Derived.Test.YtjmndjmhjleabaaGreatDoorPk8
import Derived.Test.YtjmndjmhjleabaaGreatDoorPk17
namespace Go.Proofs.YtjmndjmhjleabaaGreatDoor
open Go.RowKit
def Rq.lenVal:Nat ⊕ Int->Value
 | .inl c=>.tuple #[.int .i64 0,.int .i64 (c:Int)]
 | .inr k=>.tuple #[.int .i64 k,.int .i64 0]
def Rq.VF (l:au):List Rq.Fl:=l.map fun p=>(p.1.data.toList,p.2.data.toList)
theorem Rq.vM (l:au)(name:ay)(hn:Ch.lower name.data.toList=name.data.toList):Rq.vals (Rq.VF l) name.data.toList=(Fd.vals name l).map (fun x=>x.data.toList):=by
 unfold Rq.vals Rq.VF Fd.vals;rw[List.filter_map,List.map_map,List.map_map,hn];have e:(fun f:Rq.Fl=>Ch.lower f.1==name.data.toList) ∘ (fun p:ay×ay=>(p.1.data.toList,p.2.data.toList))=fun p=>decide (Ch.lower p.1.data.toList=name.data.toList):=by
  funext p;rw[aH];simp
 rw[e];rfl
def q9:ay:=⟨#[104,111,115,116]⟩
def pV:ay:=⟨#[99,111,110,116,101,110,116,45,108,101,110,103,116,104]⟩
def pW:ay:=⟨#[116,114,97,110,115,102,101,114,45,101,110,99,111,100,105,110,103]⟩
theorem Fd.vN {name:ay}{l:au}{v:ay}(h:v∈Fd.vals name l):∃p∈l,p.2=v:=by
 unfold Fd.vals at h;obtain⟨p,hp,e⟩:=aN.1 h;exact⟨p,(List.mem_filter.1 hp).1,e⟩
def Rq.lenOf (mi:Nat)(H V C:List (av)):Nat ⊕ Int :=
 if 1<H.length∨H.length=0∧mi=1 then .inl 13
 else if C≠[] then
  (if V ≠ [] ∨ mi = 0 then .inl 12
   else if C.length≠1∨Ch.lower (C.headD [])≠Rq.oW then .inl 11
   else .inr (-1))
 else match Rq.sizes (V.headD []) 0 V with
  | .inl c=>.inl c
  | .inr n=>if 4000<n then .inl 4 else .inr n
theorem Rq.len_eq (h:Rq.Hd):Rq.len h=Rq.lenOf h.minor (Rq.vals h.fields Rq.nHost) (Rq.vals h.fields Rq.J9) (Rq.vals h.fields Rq.Ka):=rfl
def Rq.lists (vs:List ay):List (av):=vs.map fun x=>x.data.toList
def Rq.mV (l:List Rq.Fl):au:=l.map fun p=>(⟨p.1.toArray⟩,⟨p.2.toArray⟩)
theorem Rq.IY (l:List Rq.Fl):Rq.VF (Rq.mV l)=l:=by
 unfold Rq.VF Rq.mV;rw[List.map_map];exact List.map_id' l
theorem Rq.kS (l:List Rq.Fl):(Rq.mV l).length=l.length:=by simp[Rq.mV]
theorem Rq.yw (a b:List Rq.Fl):Rq.mV (a++b)=Rq.mV a++Rq.mV b:=by simp[Rq.mV]
theorem Fd.kX (a b:ay)(l:au)(h:Ch.lower a.data.toList=Ch.lower b.data.toList):Fd.vals a l=Fd.vals b l:=by
 unfold Fd.vals;rw[h]
def Rq.rW (V:List (av)):Nat ⊕ Int :=
 match Rq.sizes (V.headD []) 0 V with
  | .inl c=>.inl c
  | .inr n=>if 4000<n then .inl 4 else .inr n
def Rq.zh (mi:Nat)(V C:List (av)):Nat ⊕ Int :=
 if C≠[] then
  (if V ≠ [] ∨ mi = 0 then .inl 12
   else if C.length≠1∨Ch.lower (C.headD [])≠Rq.oW then .inl 11
   else .inr (-1))
 else Rq.rW V
theorem Rq.VG (mi:Nat)(H V C:List (av)):Rq.lenOf mi H V C=if 1<H.length∨H.length=0∧mi=1 then .inl 13 else Rq.zh mi V C:=rfl
theorem Rq.IZ (x:av):0<=(Ch.number 10 9 x).1∧(Ch.number 10 9 x).1<68719476736:=by
 unfold Ch.number;split
 . exact⟨aB _,by decide⟩
 . split
   . rename_i h1 h2;have hl9:¬(9:Int)<x.length:=fun e=>h1 (Or.inr e);exact Ch.l9 10 (by omega) (by omega) _ h2 (by omega)
   . exact⟨aB _,by decide⟩
end Go.Proofs.YtjmndjmhjleabaaGreatDoor