/- Fields as they lie in memory, as plain bytes; a body's length by the values of its head's fields. -/
import Derived.Test.YtjmndjmhjleabaaGreatDoorPk8
import Derived.Test.YtjmndjmhjleabaaGreatDoorPk17
namespace Go.Proofs.YtjmndjmhjleabaaGreatDoor
open Go.RowKit
def Rq.lenVal:Nat ⊕ Int->Value
 | .inl c=>.tuple #[.int .i64 0,.int .i64 (c:Int)]
 | .inr k=>.tuple #[.int .i64 k,.int .i64 0]
def Rq.V4 (l:ak):List Rq.Fl:=l.map fun p=>(p.1.data.toList,p.2.data.toList)
theorem Rq.wz (l:ak)(a:av)(b:Ch.lower a.data.toList=a.data.toList):Rq.vals (Rq.V4 l) a.data.toList=(Fd.vals a l).map (fun x=>x.data.toList):=by
 unfold Rq.vals Rq.V4 Fd.vals;rw[List.filter_map,List.map_map,List.map_map,b];have e:(fun f:Rq.Fl=>Ch.lower f.1==a.data.toList) ∘ (fun p:av×av=>(p.1.data.toList,p.2.data.toList))=fun p=>decide (Ch.lower p.1.data.toList=a.data.toList):=by
  funext p;rw[aG];simp
 rw[e];rfl
def rQ:av:=⟨#[104,111,115,116]⟩
def qm:av:=⟨#[99,111,110,116,101,110,116,45,108,101,110,103,116,104]⟩
def qp:av:=⟨#[116,114,97,110,115,102,101,114,45,101,110,99,111,100,105,110,103]⟩
theorem Fd.wB {a:av}{l:ak}{v:av}(h:v∈Fd.vals a l):∃p∈l,p.2=v:=by
 unfold Fd.vals at h;obtain⟨p,b,e⟩:=aM.1 h;exact⟨p,(List.mem_filter.1 b).1,e⟩
def Rq.lenOf (mi:Nat)(H am C:List (au)):Nat ⊕ Int :=
 if 1<H.length∨H.length=0∧mi=1 then .inl 13
 else if C≠[] then
  (if am ≠ [] ∨ mi = 0 then .inl 12
   else if C.length≠1∨Ch.lower (C.headD [])≠Rq.pI then .inl 11
   else .inr (-1))
 else match Rq.sizes (am.headD []) 0 am with
  | .inl c=>.inl c
  | .inr n=>if 4000<n then .inl 4 else .inr n
theorem Rq.len_eq (h:Rq.Hd):Rq.len h=Rq.lenOf h.minor (Rq.vals h.fields Rq.nHost) (Rq.vals h.fields Rq.Ky) (Rq.vals h.fields Rq.Kz):=rfl
def Rq.lists (vs:List av):List (au):=vs.map fun x=>x.data.toList
def Rq.nu (l:List Rq.Fl):ak:=l.map fun p=>(⟨p.1.toArray⟩,⟨p.2.toArray⟩)
theorem Rq.Jl (l:List Rq.Fl):Rq.V4 (Rq.nu l)=l:=by
 unfold Rq.V4 Rq.nu;rw[List.map_map];exact List.map_id' l
theorem Rq.kU (l:List Rq.Fl):(Rq.nu l).length=l.length:=by simp[Rq.nu]
theorem Rq.yO (a b:List Rq.Fl):Rq.nu (a++b)=Rq.nu a++Rq.nu b:=by simp[Rq.nu]
theorem Fd.kZ (a b:av)(l:ak)(h:Ch.lower a.data.toList=Ch.lower b.data.toList):Fd.vals a l=Fd.vals b l:=by
 unfold Fd.vals;rw[h]
def Rq.sM (am:List (au)):Nat ⊕ Int :=
 match Rq.sizes (am.headD []) 0 am with
  | .inl c=>.inl c
  | .inr n=>if 4000<n then .inl 4 else .inr n
def Rq.zJ (mi:Nat)(am C:List (au)):Nat ⊕ Int :=
 if C≠[] then
  (if am ≠ [] ∨ mi = 0 then .inl 12
   else if C.length≠1∨Ch.lower (C.headD [])≠Rq.pI then .inl 11
   else .inr (-1))
 else Rq.sM am
theorem Rq.V5 (mi:Nat)(H a C:List (au)):Rq.lenOf mi H a C=if 1<H.length∨H.length=0∧mi=1 then .inl 13 else Rq.zJ mi a C:=rfl
theorem Rq.Jm (x:au):0<=(Ch.number 10 9 x).1∧(Ch.number 10 9 x).1<68719476736:=by
 unfold Ch.number;split
 . exact⟨aA _,by decide⟩
 . split
   . rename_i a b;have c:¬(9:Int)<x.length:=fun e=>a (Or.inr e);exact Ch.mG 10 (by omega) (by omega) _ b (by omega)
   . exact⟨aA _,by decide⟩
end Go.Proofs.YtjmndjmhjleabaaGreatDoor