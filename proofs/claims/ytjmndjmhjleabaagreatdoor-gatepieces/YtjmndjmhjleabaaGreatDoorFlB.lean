/- Fields as they lie in memory, as plain bytes; a body's length by the values of its head's fields. -/
import Derived.Test.YtjmndjmhjleabaaGreatDoorPk8
import Derived.Test.YtjmndjmhjleabaaGreatDoorPk19
namespace Go.Proofs.YtjmndjmhjleabaaGreatDoor
open Go.RowKit
def Rq.lenVal:Nat ⊕ Int->Value
 | .inl c=>.tuple #[.int .i64 0,.int .i64 (c:Int)]
 | .inr k=>.tuple #[.int .i64 k,.int .i64 0]
def Rq.Wd (l:List (ByteArray×ByteArray)):List Rq.Fl:=l.map fun p=>(p.1.data.toList,p.2.data.toList)
theorem Rq.Eb (l:List (ByteArray×ByteArray))(name:ByteArray)(hn:Ch.lower name.data.toList=name.data.toList):Rq.vals (Rq.Wd l) name.data.toList=(Fd.vals name l).map (fun x=>x.data.toList):=by
 unfold Rq.vals Rq.Wd Fd.vals;rw[List.filter_map,List.map_map,List.map_map,hn];have e:(fun f:Rq.Fl=>Ch.lower f.1==name.data.toList) ∘ (fun p:ByteArray×ByteArray=>(p.1.data.toList,p.2.data.toList))=fun p=>decide (Ch.lower p.1.data.toList=name.data.toList):=by
  funext p;rw[Bool.eq_iff_iff];simp
 rw[e];rfl
def uZ:ByteArray:=⟨#[104,111,115,116]⟩
def qo:ByteArray:=⟨#[99,111,110,116,101,110,116,45,108,101,110,103,116,104]⟩
def qp:ByteArray:=⟨#[116,114,97,110,115,102,101,114,45,101,110,99,111,100,105,110,103]⟩
theorem Fd.rQ {name:ByteArray}{l:List (ByteArray×ByteArray)}{v:ByteArray}(h:v∈Fd.vals name l):∃p∈l,p.2=v:=by
 unfold Fd.vals at h;obtain⟨p,hp,e⟩:=List.mem_map.1 h;exact⟨p,(List.mem_filter.1 hp).1,e⟩
def Rq.lenOf (mi:Nat)(H V C:List (List UInt8)):Nat ⊕ Int :=
 if 1<H.length∨H.length=0∧mi=1 then .inl 13
 else if C≠[] then
  (if V ≠ [] ∨ mi = 0 then .inl 12
   else if C.length≠1∨Ch.lower (C.headD [])≠Rq.nY then .inl 11
   else .inr (-1))
 else match Rq.sizes (V.headD []) 0 V with
  | .inl c=>.inl c
  | .inr n=>if 4000<n then .inl 4 else .inr n
theorem Rq.len_eq (h:Rq.Hd):Rq.len h=Rq.lenOf h.minor (Rq.vals h.fields Rq.nHost) (Rq.vals h.fields Rq.Dt) (Rq.vals h.fields Rq.Du):=rfl
def Rq.lists (vs:List ByteArray):List (List UInt8):=vs.map fun x=>x.data.toList
def Rq.iH (l:List Rq.Fl):List (ByteArray×ByteArray):=l.map fun p=>(⟨p.1.toArray⟩,⟨p.2.toArray⟩)
theorem Rq.Jv (l:List Rq.Fl):Rq.Wd (Rq.iH l)=l:=by
 unfold Rq.Wd Rq.iH;rw[List.map_map];exact List.map_id' l
theorem Rq.kN (l:List Rq.Fl):(Rq.iH l).length=l.length:=by simp[Rq.iH]
theorem Rq.xU (a b:List Rq.Fl):Rq.iH (a++b)=Rq.iH a++Rq.iH b:=by simp[Rq.iH]
theorem Fd.eu (a b:ByteArray)(l:List (ByteArray×ByteArray))(h:Ch.lower a.data.toList=Ch.lower b.data.toList):Fd.vals a l=Fd.vals b l:=by
 unfold Fd.vals;rw[h]
def Rq.lG (V:List (List UInt8)):Nat ⊕ Int :=
 match Rq.sizes (V.headD []) 0 V with
  | .inl c=>.inl c
  | .inr n=>if 4000<n then .inl 4 else .inr n
def Rq.rR (mi:Nat)(V C:List (List UInt8)):Nat ⊕ Int :=
 if C≠[] then
  (if V ≠ [] ∨ mi = 0 then .inl 12
   else if C.length≠1∨Ch.lower (C.headD [])≠Rq.nY then .inl 11
   else .inr (-1))
 else Rq.lG V
theorem Rq.Oz (mi:Nat)(H V C:List (List UInt8)):Rq.lenOf mi H V C=if 1<H.length∨H.length=0∧mi=1 then .inl 13 else Rq.rR mi V C:=rfl
theorem Rq.BS (x:List UInt8):0<=(Ch.number 10 9 x).1∧(Ch.number 10 9 x).1<68719476736:=by
 unfold Ch.number;split
 . exact⟨Int.le_refl _,by decide⟩
 . split
   . rename_i h1 h2;have hl9:¬(9:Int)<x.length:=fun e=>h1 (Or.inr e);exact Ch.lq 10 (by omega) (by omega) _ h2 (by omega)
   . exact⟨Int.le_refl _,by decide⟩
end Go.Proofs.YtjmndjmhjleabaaGreatDoor