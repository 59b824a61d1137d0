/- Small texts, one behind the other: MemK, TuNu, RfWord, FsB, PtA, PtB, TwoBl. -/
import Derived.Test.YtjmndjmhjleabaaGreatDoorPk16
import Derived.Test.YtjmndjmhjleabaaGreatDoorBase
import Derived.Test.YtjmndjmhjleabaaGreatDoorPk14
import Derived.Test.YtjmndjmhjleabaaGreatDoorPk19
import Derived.Test.YtjmndjmhjleabaaGreatDoorPk5
import Derived.Test.YtjmndjmhjleabaaGreatDoorPk4
import Derived.Test.YtjmndjmhjleabaaGreatDoorProg
import Derived.Test.YtjmndjmhjleabaaGreatDoorPk18
import Derived.Test.YtjmndjmhjleabaaGreatDoorPk10
import Derived.Test.YtjmndjmhjleabaaGreatDoorPk11
open Go.Proofs.Tryz
namespace Go.Proofs.YtjmndjmhjleabaaGreatDoor
open Go.RowKit
structure dw (w:World) (cs:Array Value) (t:Nat) (W:World):Prop where
 one:W.heap[w.heap.size]? = some (.cells cs t (0,0))
 below:Below w.heap.size w W
section
variable {w W W':World} {cs:Array Value} {t:Nat}
theorem dw.stay (h:dw w cs t W) (hb:Below W.heap.size W W'):dw w cs t W':=⟨(hb.block _ (Array.getElem?_eq_some_iff.1 h.one).1).trans h.one,then_ h.below hb⟩
theorem dw.turns {S:Nat→Prop} (h:dw w cs t W) (ht:Turns S W W') (hs:∀ k,S k→w.heap.size<k):dw w cs t W':=⟨ht.row h.one (fun e=>by have:=hs _ e;omega),h.below.trans (ht.below (fun k e=>by have:=hs k e;omega) h.below.size)⟩
theorem dw.made (w:World) (cs:Array Value) (t:Nat):dw w cs t (w.alloc (.cells cs t)):=⟨heap_alloc_new w _,(Below.refl _ _).alloc (Nat.le_refl _) _⟩
theorem dw.cell (h:dw w cs t W) (j:Nat):W.cell? ⟨w.heap.size,j,none⟩=cs[j]?:=cell_of_row W w.heap.size j _ _ _ h.one
theorem dw.fz (h:dw w cs t W) (j:Nat):W.frozen? ⟨w.heap.size,j,none⟩=false:=frozen_of_row W w.heap.size j _ _ h.one
theorem dw.put (h:dw w cs t W) (j:Nat) (v:Value):dw w (cs.setIfInBounds j v) t (W.setCell ⟨w.heap.size,j,none⟩ v):=by
 have hT:Turns (fun k=>k=w.heap.size) W (W.setCell ⟨w.heap.size,j,none⟩ v):=aJ w.heap.size [v] j W;exact ⟨by rw [heap_setCell_same W w.heap.size j _ _ _ h.one],h.below.trans (hT.below (fun k e=>by omega) h.below.size)⟩
theorem dw.lt (h:dw w cs t W):w.heap.size<W.heap.size:=(Array.getElem?_eq_some_iff.1 h.one).1
end
theorem Tu.Nj (n:ByteArray) (l:List (ByteArray×ByteArray)):Fd.vals n l=Tu.vals n l:=rfl
theorem Tu.Tj (vs:List ByteArray):Fd.one vs=Tu.one vs:=by
 rcases vs with _ | ⟨v,_ | ⟨v2,t⟩⟩ <;> rfl
theorem Tu.Tk (l:List (ByteArray×ByteArray)) (n:ByteArray) (B:Nat) (h:∀ p∈l,p.2.size≤B):(Tu.one (Tu.vals n l)).1.length≤B:=by
 have hv:∀ v∈Tu.vals n l,v.size≤B:=fun v hv=>by
  unfold Tu.vals at hv;obtain ⟨p,hp,rfl⟩:=List.mem_map.1 hv;exact h p (List.mem_filter.1 hp).1
 unfold Tu.one;split
 · simp
 · rename_i v hq;have:=hv v (by rw [hq];simp);rw [Array.length_toList];exact this
 · simp
theorem Buf.set {w:World} {base g cap:Nat} {l:List UInt8} (h:Buf w base g cap l) (j:Nat) (c:UInt8):Buf (w.setCell ⟨g,j,none⟩ (.int .u8 (c.toNat:Int))) base g cap (l.set j c)∧Turns (fun k=>k=g) w (w.setCell ⟨g,j,none⟩ (.int .u8 (c.toNat:Int))):=by
 refine ⟨⟨h.D7,by simpa using h.lt,by rw [List.length_set];exact h.le,h.max,fun i u hu=>?_,fun i hi=>?_⟩,Turns.setCell (fun k=>k=g) w ⟨g,j,none⟩ _ rfl⟩
 · have hil:i<l.length:=by
    have:=(List.getElem?_eq_some_iff.1 hu).1;rwa [aK,List.length_set] at this
   rw [gG _ i (by rw [List.length_set];exact hil)] at hu;by_cases e:i=j
   · subst e;have hs:=h.holds i _ (gG l i hil);rw [World.cell?_setCell_same w _ _ hs,←hu,List.getElem_set_self]
   · rw [World.cell?_setCell_other (h:=by intro e2;injection e2 with _ e2;exact e e2.symm),←hu];rw [List.getElem_set_ne (fun e2=>e e2.symm)];exact h.holds i _ (gG l i hil)
 · obtain ⟨h1,h2⟩:=h.there i hi;refine ⟨?_,by rw [World.frozen?_setCell];exact h2⟩;by_cases e:i=j
   · subst e;obtain ⟨v,hv⟩:=Option.isSome_iff_exists.1 h1;rw [World.cell?_setCell_same w _ _ hv];rfl
   · rw [World.cell?_setCell_other (h:=by intro e2;injection e2 with _ e2;exact e e2.symm)];exact h1
theorem Pn {l:List UInt8} {a b:Int} (ha:wV 47 l a) (hb:wV 92 l b):-1≤max a b∧max a b<l.length∧l.drop (max a b+1).toNat=Fm.tail l:=by
 have hs:∀ c:UInt8,Fm.stroke c=false↔c≠47∧c≠92:=fun c=>by
  unfold Fm.stroke;rw [Bool.or_eq_false_iff,beq_eq_false_iff_ne,beq_eq_false_iff_ne]
 have ht:∀ c:UInt8,(c=47∨c=92)→Fm.stroke c=true:=fun c h=>by
  unfold Fm.stroke;rw [Bool.or_eq_true,beq_iff_eq,beq_iff_eq];exact h
 rcases ha with ⟨ha,na⟩ | ⟨i,hi,ha,ca,na⟩
 · rcases hb with ⟨hb,nb⟩ | ⟨k,hk,hb,cb,nb⟩
   · have e:max a b=-1:=by omega
     rw [e];exact ⟨by omega,by omega,(Fm.tail_at (p:=0) (Nat.zero_le _) (fun j hj _=>(hs _).2 ⟨na j hj,nb j hj⟩) (Or.inl rfl)).symm⟩
   · have e:max a b=k:=by omega
     rw [e];refine ⟨by omega,by omega,?_⟩;rw [show ((k:Int)+1).toNat=k+1 by omega];exact (Fm.tail_at (p:=k+1) hk (fun j hj h=>(hs _).2 ⟨na j hj,nb j hj h⟩) (Or.inr ⟨by simpa using hk,by omega,ht _ (Or.inr (by simpa using cb))⟩)).symm
 · rcases hb with ⟨hb,nb⟩ | ⟨k,hk,hb,cb,nb⟩
   · have e:max a b=i:=by omega
     rw [e];refine ⟨by omega,by omega,?_⟩;rw [show ((i:Int)+1).toNat=i+1 by omega];exact (Fm.tail_at (p:=i+1) hi (fun j hj h=>(hs _).2 ⟨na j hj h,nb j hj⟩) (Or.inr ⟨by simpa using hi,by omega,ht _ (Or.inl (by simpa using ca))⟩)).symm
   · rcases Nat.lt_or_ge i k with h | h
     · have e:max a b=k:=by omega
       rw [e];refine ⟨by omega,by omega,?_⟩;rw [show ((k:Int)+1).toNat=k+1 by omega];exact (Fm.tail_at (p:=k+1) hk (fun j hj h2=>(hs _).2 ⟨na j hj (by omega),nb j hj h2⟩) (Or.inr ⟨by simpa using hk,by omega,ht _ (Or.inr (by simpa using cb))⟩)).symm
     · have e:max a b=i:=by omega
       rw [e];refine ⟨by omega,by omega,?_⟩;rw [show ((i:Int)+1).toNat=i+1 by omega];exact (Fm.tail_at (p:=i+1) hi (fun j hj h2=>(hs _).2 ⟨na j hj h2,nb j hj (by omega)⟩) (Or.inr ⟨by simpa using hi,by omega,ht _ (Or.inl (by simpa using ca))⟩)).symm
theorem Pw:(prog.info? 70).map (fun i=>(i.zero,i.size,i.bytes))=some (some (.agg #[.string ⟨#[]⟩,.string ⟨#[]⟩,.string ⟨#[]⟩,.slice none 0 0]),4,72):=by kernel_rfl
structure Rf where
 bo:Option Addr
 aj:Nat
def Px (p:Fm.Pt) (s:Rf):List Value:=[.string p.name,.string p.file,.string p.type,.slice s.bo p.bytes.length s.aj]
def ou (ps:List (Fm.Pt×Rf)):List Value:=ps.flatMap fun p=>Px p.1 p.2
theorem qO (a b:List (Fm.Pt×Rf)):ou (a++b)=ou a++ou b:=by simp [ou]
theorem A8 (p:Fm.Pt) (s:Rf):ou [(p,s)]=Px p s:=by simp [ou]
theorem kK (ps:List (Fm.Pt×Rf)):(ou ps).length=ps.length*4:=by
 induction ps with
 | nil=>rfl
 | cons p t ih =>
   have e:(Px p.1 p.2).length=4:=rfl;simp only [ou,List.flatMap_cons,List.length_append,List.length_cons] at ih ⊢;rw [ih,e];omega
theorem j4:∀ (ps:List (Fm.Pt×Rf)) (i:Nat) (hi:i<ps.length) (j:Nat),j<4→(ou ps)[i*4+j]? = (Px ps[i].1 ps[i].2)[j]?
 | p :: t, 0, _, j, hj => by
   show (Px p.1 p.2++ou t)[0*4+j]? = _;rw [List.getElem?_append_left (by rw [show (Px p.1 p.2).length=4 from rfl];omega),Nat.zero_mul,Nat.zero_add];rfl
 | p :: t, i + 1, hi, j, hj => by
   show (Px p.1 p.2++ou t)[(i+1)*4+j]? = _;rw [List.getElem?_append_right (by rw [show (Px p.1 p.2).length=4 from rfl];omega),show (Px p.1 p.2).length=4 from rfl,show (i+1)*4+j - 4=i*4+j by omega];exact j4 t i (by simpa using hi) j hj
structure kL (w:World) (D:Nat→Prop) (ps:List Fm.Pt) (ao:Option Addr) (cap n:Nat) (wr:World):Prop where
 own:∃ qs:List (Fm.Pt×Rf),qs.map (·.1)=ps∧aD wr w.heap.size 70 4 ao cap n (ou qs)∧∀ q∈qs,dQ w D q.2.bo q.2.aj q.1.bytes
 len:n=ps.length
 below:Below w.heap.size w wr
theorem kL.start (w:World) (D:Nat→Prop):kL w D [] none 0 0 w:=⟨⟨[],rfl,aD.nil _ _ _ _,fun q hq=>(by cases hq)⟩,rfl,Below.refl _ _⟩
theorem kL.stay {D:Nat→Prop} {w wr w':World} {ps:List Fm.Pt} {ao:Option Addr} {cap n:Nat} (h:kL w D ps ao cap n wr) (hb:Below wr.heap.size wr w'):kL w D ps ao cap n w':=by
 obtain ⟨qs,h1,h2,h3⟩:=h.own;exact ⟨⟨qs,h1,h2.stay hb,h3⟩,h.len,then_ h.below hb⟩
theorem kL.push {D:Nat→Prop} {w W:World} {ps:List Fm.Pt} {ao:Option Addr} {cap n:Nat} (h:kL w D ps ao cap n W):∃ xs,aD W w.heap.size 70 4 ao cap n xs ∧
 ∀ aF cap' w' (p:Fm.Pt) (s:Rf),dQ w D s.bo s.aj p.bytes→aD w' w.heap.size 70 4 aF cap' (n+1) (xs++Px p s)→W.grownBy w' (ak ao)→kL w D (ps++[p]) aF cap' (n+1) w':=by
 obtain ⟨qs,h1,h2,h3⟩:=h.own;refine ⟨ou qs,h2,fun aF cap' w' p s hB hO hG=>⟨⟨qs++[(p,s)],by simp [h1],by rw [qO,A8];exact hO,fun q hq=>?_⟩,by rw [List.length_append,h.len];rfl,h.below.grown hG h.below.size (fun k e=>?_)⟩⟩
 · rcases List.mem_append.1 hq with hq | hq
   · exact h3 q hq
   · rw [List.mem_singleton.1 hq];exact hB
 · cases ao with
   | none=>cases e
   | some a=>injection e with e;subst e;exact (h2.block a rfl).1
theorem kL.bytes {D:Nat→Prop} {w wr:World} {qs:List Fm.Pt} {p:Fm.Pt} {ao:Option Addr} {cap n:Nat} (h:kL w D (qs++[p]) ao cap (n+1) wr):∃ g,ao=some ⟨g,0,none⟩∧(∃ v,wr.cell? ⟨g,n*4+3,none⟩=some v)∧wr.frozen? ⟨g,n*4+3,none⟩=false∧n+1≤cap ∧
 ∀ (l:List UInt8) (bo:Option Addr) (bc m:Nat),dQ w D bo bc l→m=l.length→kL w D (qs++[{ p with bytes:=l }]) ao cap (n+1) (wr.setCell ⟨g,n*4+3,none⟩ (.slice bo m bc)):=by
 obtain ⟨rs,h1,h2,h3⟩:=h.own;have hn:n=qs.length:=by have:=h.len;rw [List.length_append] at this;simpa using this
 obtain ⟨rs',ps,rfl,hrs,hps⟩:∃ rs' ps,rs=rs'++[ps]∧rs'.map (·.1)=qs∧ps.1=p:=by
  rcases List.eq_nil_or_concat rs with rfl | ⟨q,x,rfl⟩
  · have:=congrArg List.length h1;simp at this
  · rw [List.concat_eq_append,List.map_append] at h1;obtain ⟨e1,e2⟩:=List.append_inj' h1 rfl;exact ⟨q,x,by rw [List.concat_eq_append],e1,by simpa using e2⟩
 obtain ⟨pp,ss⟩:=ps;have hps:pp=p:=hps;subst hps;have hl:rs'.length=n:=by have:=congrArg List.length hrs;rw [List.length_map] at this;omega
 have hv:=h2.jg;have hpos:0<(ou (rs'++[(pp,ss)])).length:=by rw [kK,List.length_append];simp
 obtain ⟨a,rfl⟩:∃ a,ao=some a:=by
  cases ao with
  | none=>have:=h2.jg.2.1 rfl;have:=h2.jg.1;omega
  | some a=>exact ⟨a,rfl⟩
 obtain ⟨g,rfl⟩:∃ g,a=⟨g,0,none⟩:=by
  rcases h2.2 with ⟨e,_⟩ | ⟨g,cap',cur,e,_⟩
  · injection e with e;cases e
  · injection e with e;injection e with e;exact ⟨g,e⟩
 have hat:(ou (rs'++[(pp,ss)]))[n*4+3]? = some (.slice ss.bo pp.bytes.length ss.aj):=by
  rw [j4 _ n (by rw [List.length_append,hl];simp) 3 (by omega)];simp [←hl,Px]
 refine ⟨g,rfl,⟨_,(World.ownsRow.cellAt h2 (n*4+3) (by omega)).trans hat⟩,World.ownsRow.frozenAt h2 _,h2.jg.1,fun l bo bc m hB hm=>?_⟩;subst hm;have hS:=(World.ownsRow.stored h2 (n*4+3) (.slice bo l.length bc)).1;have e1:(ou (rs'++[(pp,ss)])).set (n*4+3) (.slice bo l.length bc)=ou (rs'++[({ pp with bytes:=l },⟨bo,bc⟩)]):=by
  rw [qO,qO,A8,A8,List.set_append_right _ _ (by rw [kK,hl];omega),kK,hl,show n*4+3 - n*4=3 by omega];rfl
 have hS2:aD (wr.setCell ⟨g,n*4+3,none⟩ (.slice bo l.length bc)) w.heap.size 70 4 (some ⟨g,0,none⟩) cap (n+1) (ou (rs'++[({ pp with bytes:=l },⟨bo,bc⟩)])):=by rw [←e1];exact hS
 have hb:w.heap.size≤(⟨g,n*4+3,none⟩:Addr).block:=(h2.block _ rfl).1;refine ⟨⟨rs'++[({ pp with bytes:=l },⟨bo,bc⟩)],by simp [hrs],hS2,fun q hq=>?_⟩,by rw [List.length_append,hn];rfl,h.below.setCell hb _⟩;rcases List.mem_append.1 hq with hq | hq
 · exact h3 q (List.mem_append_left _ hq)
 · rw [List.mem_singleton.1 hq];exact hB
def A9 (w:World) (ao:Option Addr) (cap:Nat) (ps:List Fm.Pt):Prop:=∃ qs:List (Fm.Pt×Rf),qs.map (·.1)=ps∧bS w ao cap ps.length (ou qs)∧∀ q∈qs,aT w q.2.bo q.2.aj q.1.bytes
theorem A9.stay {w w':World} {ao:Option Addr} {cap:Nat} {ps:List Fm.Pt} (h:A9 w ao cap ps) (hb:Below w.heap.size w w'):A9 w' ao cap ps:=by
 obtain ⟨qs,h1,h2,h3⟩:=h;exact ⟨qs,h1,h2.stay hb,fun q hq=>(h3 q hq).stay hb⟩
theorem A9.at_ {w:World} {ao:Option Addr} {cap:Nat} {ps:List Fm.Pt} (h:A9 w ao cap ps) (k:Nat) (hk:k<ps.length):∃ (b o:Nat) (s:Rf),ao=some ⟨b,o,none⟩∧w.cell? ⟨b,o+k*4,none⟩=some (.string ps[k].name)∧w.cell? ⟨b,o+k*4+1,none⟩=some (.string ps[k].file)∧w.cell? ⟨b,o+k*4+2,none⟩=some (.string ps[k].type)∧w.cell? ⟨b,o+k*4+3,none⟩=some (.slice s.bo ps[k].bytes.length s.aj)∧aT w s.bo s.aj ps[k].bytes:=by
 obtain ⟨qs,rfl,hv,hb⟩:=h;have hk':k<qs.length:=by simpa using hk
 obtain ⟨b,o,rfl,hc⟩:=hv.lit (by rw [kK];omega);have hq:=hb _ (List.getElem_mem hk');have e0:=j4 qs k hk' 0 (by decide);have e1:=j4 qs k hk' 1 (by decide);have e2:=j4 qs k hk' 2 (by decide);have e3:=j4 qs k hk' 3 (by decide);refine ⟨b,o,qs[k].2,rfl,?_,?_,?_,?_,?_⟩
 · rw [List.getElem_map];exact hc _ _ (by rw [Nat.add_zero] at e0;exact e0)
 · rw [List.getElem_map,Nat.add_assoc];exact hc _ _ e1
 · rw [List.getElem_map,Nat.add_assoc];exact hc _ _ e2
 · rw [List.getElem_map,Nat.add_assoc];exact hc _ _ e3
 · rw [List.getElem_map];exact hq
structure fT (w:World) (r1 r2:Obj) (W:World):Prop where
 one:W.heap[w.heap.size]? = some r1
 two:W.heap[w.heap.size+1]? = some r2
 below:Below w.heap.size w W
theorem fT.stay {w W W':World} {r1 r2:Obj} (h:fT w r1 r2 W) (hb:Below W.heap.size W W'):fT w r1 r2 W' :=
 ⟨(hb.block _ (Array.getElem?_eq_some_iff.1 h.one).1).trans h.one,(hb.block _ (Array.getElem?_eq_some_iff.1 h.two).1).trans h.two,then_ h.below hb⟩
theorem fT.cell {w W:World} {cs:Array Value} {t:Nat} {r2:Obj} (h:fT w (.cells cs t (0,0)) r2 W) (j:Nat):W.cell? ⟨w.heap.size,j,none⟩=cs[j]?:=cell_of_row W w.heap.size j _ _ _ h.one
theorem fT.fz {w W:World} {cs:Array Value} {t:Nat} {r2:Obj} (h:fT w (.cells cs t (0,0)) r2 W) (j:Nat):W.frozen? ⟨w.heap.size,j,none⟩=false:=frozen_of_row W w.heap.size j _ _ h.one
theorem fT.same {w W:World} {cs:Array Value} {t:Nat} {r2:Obj} (h:fT w (.cells cs t (0,0)) r2 W) (j:Nat) (v:Value) (hv:cs.setIfInBounds j v=cs):fT w (.cells cs t (0,0)) r2 (W.setCell ⟨w.heap.size,j,none⟩ v):=by
 have hT:Turns (fun k=>k=w.heap.size) W (W.setCell ⟨w.heap.size,j,none⟩ v):=aJ w.heap.size [v] j W;refine ⟨by rw [heap_setCell_same W w.heap.size j _ _ _ h.one,hv],hT.row h.two (by omega),h.below.trans (hT.below (fun k e=>by omega) h.below.size)⟩
theorem fT.sP {w W:World} {cs:Array Value} {t:Nat} {r1:Obj} (h:fT w r1 (.cells cs t (0,0)) W) (j:Nat):W.cell? ⟨w.heap.size+1,j,none⟩=cs[j]?:=cell_of_row W _ j _ _ _ h.two
theorem fT.fz2 {w W:World} {cs:Array Value} {t:Nat} {r1:Obj} (h:fT w r1 (.cells cs t (0,0)) W) (j:Nat):W.frozen? ⟨w.heap.size+1,j,none⟩=false:=frozen_of_row W _ j _ _ h.two
theorem fT.afD {w W:World} {cs:Array Value} {t:Nat} {r2:Obj} (h:fT w (.cells cs t (0,0)) r2 W) (j:Nat) (v:Value):fT w (.cells (cs.setIfInBounds j v) t (0,0)) r2 (W.setCell ⟨w.heap.size,j,none⟩ v)∧Turns (fun k=>w.heap.size≤k∧k<w.heap.size+2) W (W.setCell ⟨w.heap.size,j,none⟩ v):=by
 have hT:Turns (fun k=>k=w.heap.size) W (W.setCell ⟨w.heap.size,j,none⟩ v):=aJ w.heap.size [v] j W;exact ⟨⟨by rw [heap_setCell_same W w.heap.size j _ _ _ h.one],hT.row h.two (by omega),h.below.trans (hT.below (fun k e=>by omega) h.below.size)⟩,Turns.setCell _ W _ _ ⟨Nat.le_refl _,by show w.heap.size<_;omega⟩⟩
theorem fT.TU {w W:World} {cs:Array Value} {t:Nat} {r1:Obj} (h:fT w r1 (.cells cs t (0,0)) W) (j:Nat) (v:Value):fT w r1 (.cells (cs.setIfInBounds j v) t (0,0)) (W.setCell ⟨w.heap.size+1,j,none⟩ v)∧Turns (fun k=>w.heap.size≤k∧k<w.heap.size+2) W (W.setCell ⟨w.heap.size+1,j,none⟩ v):=by
 have hT:Turns (fun k=>k=w.heap.size+1) W (W.setCell ⟨w.heap.size+1,j,none⟩ v):=aJ (w.heap.size+1) [v] j W;exact ⟨⟨hT.row h.one (by omega),by rw [heap_setCell_same W (w.heap.size+1) j _ _ _ h.two],h.below.trans (hT.below (fun k e=>by omega) h.below.size)⟩,Turns.setCell _ W _ _ ⟨by show w.heap.size≤w.heap.size+1;omega,by show w.heap.size+1<_;omega⟩⟩
theorem fT.made (w:World) (cs ds:Array Value) (t u:Nat):fT w (.cells cs t (0,0)) (.cells ds u (0,0)) ((w.alloc (.cells cs t)).alloc (.cells ds u)):=by
 have b1:Below w.heap.size w (w.alloc (.cells cs t)):=(Below.refl _ _).alloc (Nat.le_refl _) _;have b2:Below (w.alloc (.cells cs t)).heap.size (w.alloc (.cells cs t)) ((w.alloc (.cells cs t)).alloc (.cells ds u)):=(Below.refl _ _).alloc (Nat.le_refl _) _;refine ⟨(b2.block w.heap.size (by simp)).trans (heap_alloc_new w _),?_,then_ b1 b2⟩;have:=heap_alloc_new (w.alloc (.cells cs t)) (.cells ds u);rw [World.size_alloc] at this;exact this
end Go.Proofs.YtjmndjmhjleabaaGreatDoor