/- Small texts, one behind the other: JrF, JlA, ShA, TuN. -/
import Derived.Test.YtjmndjmhjleabaaGreatDoorPk12
import Derived.Test.YtjmndjmhjleabaaGreatDoorPk23
import Derived.Test.YtjmndjmhjleabaaGreatDoorPk11
import Derived.Test.YtjmndjmhjleabaaGreatDoorPk17
import Derived.Test.YtjmndjmhjleabaaGreatDoorPk10
import Derived.Test.YtjmndjmhjleabaaGreatDoorPk36
import Derived.Test.YtjmndjmhjleabaaGreatDoorPk14
import Derived.Test.YtjmndjmhjleabaaGreatDoorPk24
import Derived.Test.YtjmndjmhjleabaaGreatDoorPk5
open Go.Proofs.Tryz
namespace Go.Proofs.YtjmndjmhjleabaaGreatDoor
open Go.RowKit
theorem RF {W:World}{g t:Nat}{c0 c1 c2:Value}(h:W.heap[g]? = some (.cells #[c0,c1,c2] t (0,0))):(W.cell? ⟨g,0,none⟩=some c0∧W.cell? ⟨g,1,none⟩=some c1∧W.cell? ⟨g,2,none⟩=some c2)∧(W.frozen? ⟨g,0,none⟩=false∧W.frozen? ⟨g,1,none⟩=false∧W.frozen? ⟨g,2,none⟩=false) :=
 ⟨⟨cell_of_row W g 0 _ _ _ h,cell_of_row W g 1 _ _ _ h,cell_of_row W g 2 _ _ _ h⟩,frozen_of_row W g 0 _ _ h,frozen_of_row W g 1 _ _ h,frozen_of_row W g 2 _ _ h⟩
structure dR (w:World)(base g:Nat)(b:List UInt8)(sure:Nat)(ao:Option Addr)(ca:Nat):Prop where
 row:w.heap[g]? = some (.cells #[.slice ao b.length ca,.int .i64 (sure:Int)] 119 (0,0))
 own:aT w base 5 ao ca b
 low:base<=g
 le:sure<=b.length
 few:b.length<=100000
theorem jO {W:World}{g t:Nat}{c0 c1:Value}(h:W.heap[g]? = some (.cells #[c0,c1] t (0,0))):(W.cell? ⟨g,0,none⟩=some c0∧W.cell? ⟨g,1,none⟩=some c1)∧(W.frozen? ⟨g,0,none⟩=false∧W.frozen? ⟨g,1,none⟩=false) :=
 ⟨⟨cell_of_row W g 0 _ _ _ h,cell_of_row W g 1 _ _ _ h⟩,frozen_of_row W g 0 _ _ h,frozen_of_row W g 1 _ _ h⟩
section
variable {w w':World} {base g:Nat} {b:List UInt8} {sure:Nat} {ao:Option Addr} {ca:Nat}
theorem dR.stay (h:dR w base g b sure ao ca)(hb:Below w.heap.size w w'):dR w' base g b sure ao ca:=⟨(hb.block g (Array.getElem?_eq_some_iff.1 h.row).1).trans h.row,h.own.stay hb,h.low,h.le,h.few⟩
theorem dR.lt (h:dR w base g b sure ao ca):g<w.heap.size:=(Array.getElem?_eq_some_iff.1 h.row).1
theorem Xe:(119:Nat)≠5:=by decide
theorem dR.apart (h:dR w base g b sure ao ca):∀a,ao=some a->a.block≠g:=by
 intro a e e2;have:=fB h.row h.own Xe;rw[ay,e] at this;exact this (by rw[<-e2];rfl)
theorem Gu (w:World):Calls prog 23 #[] w fun e w'=>e=.returned (.pointer (some ⟨w.heap.size,0,none⟩))∧dR w' w.heap.size w.heap.size [] 0 none 0∧Below w.heap.size w w':=by
 have H:Hid (dR (w.alloc (.cells #[.slice none 0 0,.int .i64 0] 119)) w.heap.size w.heap.size [] 0 none 0∧Below w.heap.size w (w.alloc (.cells #[.slice none 0 0,.int .i64 0] 119))) :=
  ⟨⟨heap_alloc_new w _,aT.nil _ _ _,Nat.le_refl _,Nat.le_refl _,by decide⟩,(Below.refl _ w).alloc (Nat.le_refl _) _⟩
 go_enter func23,ntmps23;go_wp2;go_ret;exact⟨rfl,H.o⟩
theorem ou (h:dR w base g b sure ao ca)(n:Int):Calls prog 169 #[.pointer (some ⟨g,0,none⟩),.int .i64 n] w fun e w'=>e=.returned (.bool (decide (0<=n)&&decide (n<=100000-(b.length:Int))))∧w'=w:=by
 obtain⟨⟨c0,c1⟩,_⟩:=jO h.row;have iw:=h.few;have hw:IntKind.i64.wrap (100000-(b.length:Int))=100000-(b.length:Int):=gL (by omega) (by omega);clear h;generalize b.length=m at *;by_cases h1:0<=n
 . by_cases h2:n<=100000-(m:Int)
   . have HR:Hid ((decide (0<=n)&&decide (n<=100000-(m:Int)))=true):=by unfold Hid;rw[decide_eq_true h1,decide_eq_true h2];rfl
     generalize (decide (0<=n)&&decide (n<=100000-(m:Int)))=r at *;go_enter func169,ntmps169;go_wp2;go_ret;exact⟨by rw[HR.o];first | rfl | simp,rfl⟩
   . have HR:Hid ((decide (0<=n)&&decide (n<=100000-(m:Int)))=false):=by unfold Hid;rw[decide_eq_false h2];simp
     generalize (decide (0<=n)&&decide (n<=100000-(m:Int)))=r at *;go_enter func169,ntmps169;go_wp2;go_ret;exact⟨by rw[HR.o];first | rfl | (simp;done) | (simp;omega),rfl⟩
 . have HR:Hid ((decide (0<=n)&&decide (n<=100000-(m:Int)))=false):=by unfold Hid;rw[decide_eq_false h1];rfl
   generalize (decide (0<=n)&&decide (n<=100000-(m:Int)))=r at *;go_enter func169,ntmps169;go_wp2;go_ret;exact⟨by rw[HR.o];first | rfl | simp,rfl⟩
theorem dR.put (h:dR w base g b sure ao ca)(n:Nat)(hn:n<=b.length):dR (w.setCell ⟨g,1,none⟩ (.int .i64 (n:Int))) base g b n ao ca∧Turns (fun k=>k=g) w (w.setCell ⟨g,1,none⟩ (.int .i64 (n:Int))):=by
 have ht:Turns (fun k=>k=g) w (w.setCell ⟨g,1,none⟩ (.int .i64 (n:Int))):=Turns.setCell _ w _ _ rfl;exact⟨⟨heap_setCell_same w g 1 _ _ _ h.row,h.own.turns ht h.apart,h.low,hn,h.few⟩,ht⟩
theorem Eh (h:dR w base g b sure ao ca):Calls prog 163 #[.pointer (some ⟨g,0,none⟩)] w fun e w'=>e=.returned (.tuple #[])∧dR w' base g b b.length ao ca∧Turns (fun k=>k=g) w w':=by
 obtain⟨⟨c0,c1⟩,f0,f1⟩:=jO h.row;have HP:=H9 (h.put b.length (Nat.le_refl _));clear h;generalize b.length=m at *;go_enter func163,ntmps163;go_wp2;go_end0
 exact⟨rfl,HP.o⟩
end
section
end
section
end
theorem Tu.QT (x c:ByteArray)(l:List UInt8)(h:c.data.toList=l):(x=c)<->(x.toList==l)=true:=by
 rw[beq_iff_eq,Lib.toList_data,<-h];refine⟨fun e=>by rw[e],fun e=>?_⟩;cases x;cases c;simp only at e;congr 1;exact Array.toList_inj.1 e
theorem Tu.YT (v l:List UInt8):(v=l)<->((⟨v.toArray⟩:ByteArray).toList==l)=true:=by
 rw[beq_iff_eq,Lib.toList_data]
theorem Tu.ZA (t:ByteArray):(t.extract 0 7).toList=t.data.toList.take 7:=by
 rw[Lib.toList_data,Lib.extract_data];simp
theorem Tu.Tz (t:ByteArray):(t.extract 7 t.size).data.toList=t.data.toList.drop 7:=by
 rw[Lib.extract_data,List.take_of_length_le];rw[List.length_drop,Array.length_toList];exact Nat.le_refl _
theorem Tu.JG {t:ByteArray}(h:¬(7<t.size∧t.data.toList.take 7=Tu.fD.data.toList∧(Ch.number 10 9 (t.data.toList.drop 7)).2=true∧Ch.bY 8 (Ch.number 10 9 (t.data.toList.drop 7)).1.toNat=t.data.toList.drop 7))(s:Sp.St):Tu.tQ s t=none:=by
 unfold Tu.tQ Tu.Rh;rw[if_neg h]
theorem Tu.OQ {t:ByteArray}(h:7<t.size∧t.data.toList.take 7=Tu.fD.data.toList∧(Ch.number 10 9 (t.data.toList.drop 7)).2=true∧Ch.bY 8 (Ch.number 10 9 (t.data.toList.drop 7)).1.toNat=t.data.toList.drop 7)(s:Sp.St):Tu.tQ s t=match Sp.place s.l (Ch.number 10 9 (t.data.toList.drop 7)).1 with
 | none=>none
 | some i=>s.l[i]?:=by
 unfold Tu.tQ Tu.Rh;rw[if_pos h];rfl
theorem Ch.jW {l:List UInt8}(h:(Ch.number 10 9 l).2=true):0<=(Ch.number 10 9 l).1∧(Ch.number 10 9 l).1<1000000000:=by
 have hl:¬(l=[]∨(9:Int)<l.length):=fun e=>by unfold Ch.number at h;rw[if_pos e] at h;cases h
 have ha:l.all (Ch.Af 10)=true:=by
  cases e:l.all (Ch.Af 10) with
  | true=>rfl
  | false=>unfold Ch.number at h;rw[if_neg hl,e] at h;cases h
 unfold Ch.number;rw[if_neg hl,if_pos ha];have key:∀(l:List UInt8) (n:Int) (B:Nat),0<=n->n<10 ^ B->l.all (Ch.Af 10)=true->0<=l.foldl (fun n b=>n*10+Ch.hex b.toNat) n∧l.foldl (fun n b=>n*10+Ch.hex b.toNat) n<10 ^ (B+l.length):=by
  intro l;induction l with
  | nil=>intro n B h0 h1 _;exact⟨h0,h1⟩
  | cons b t ih =>
    intro n B h0 h1 hd;rw[List.all_cons,Bool.and_eq_true] at hd;have hb:=hd.1;unfold Ch.Af at hb;rw[Bool.and_eq_true,decide_eq_true_eq,decide_eq_true_eq] at hb;have e:(10:Int) ^ (B+1)=10 ^ B*10:=Int.pow_succ ..;have:=ih (n*10+Ch.hex b.toNat) (B+1) (by omega) (by omega) hd.2;simp only[List.foldl_cons,List.length_cons];rw[show B+(t.length+1)=B+1+t.length by omega];exact this
 have:=key l 0 0 (by omega) (by decide) ha;refine⟨this.1,Int.lt_of_lt_of_le this.2 ?_⟩;rw[Nat.zero_add];have h9:l.length<=9:=by
  rcases Nat.lt_or_ge 9 l.length with e | e
  . exact absurd (Or.inr (by omega)) hl
  . exact e
 calc (10:Int) ^ l.length<=10 ^ 9:=by exact_mod_cast Nat.pow_le_pow_right (by decide) h9
  _=1000000000:=by decide
end Go.Proofs.YtjmndjmhjleabaaGreatDoor