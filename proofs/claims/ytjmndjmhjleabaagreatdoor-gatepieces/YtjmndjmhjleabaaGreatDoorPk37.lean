/- Small texts, one behind the other: RfMedA, TuM, RfMTxA, FmB, SkN. -/
import Derived.Test.YtjmndjmhjleabaaGreatDoorPk4
import Derived.Test.YtjmndjmhjleabaaGreatDoorPk5
import Derived.Test.YtjmndjmhjleabaaGreatDoorPk11
import Derived.Test.YtjmndjmhjleabaaGreatDoorPk10
import Derived.Deep.RegionHeld3
import Derived.Deep.DeepCutAuto
import Derived.Test.YtjmndjmhjleabaaGreatDoorPk14
import Derived.Test.YtjmndjmhjleabaaGreatDoorFmA
import Derived.Test.YtjmndjmhjleabaaGreatDoorSkR
set_option maxHeartbeats 1600000
open Go.Proofs.Tryz
namespace Go.Proofs.YtjmndjmhjleabaaGreatDoor
open Go.RowKit
def OW (m:Nat ⊕ (List UInt8×List Pm.lW))(word:ByteArray)(ps:List (ByteArray×ByteArray))(code:Nat):Prop :=
 match m with
 | .inl c=>code=c∧word=⟨#[]⟩∧ps=[]
 | .inr x=>code=0∧word.data.toList=x.1∧fT ps=x.2
def nA (w:World)(m:Nat ⊕ (List UInt8×List Pm.lW))(e:Ending)(w':World):Prop :=
 ∃word ps ao cap,∃code:Nat,e=.returned (.tuple #[.agg #[.string word,.slice ao ps.length cap],.int .i64 (code:Int)])∧OW m word ps code∧aC w' w.heap.size 202 2 ao cap ps.length (aB ps)∧Below w.heap.size w w'
theorem nA.bad {w w':World}{m:Nat ⊕ (List UInt8×List Pm.lW)}{c:Nat}(hm:m=.inl c)(hb:Below w.heap.size w w'):nA w m (.returned (.tuple #[.agg #[.string ⟨#[]⟩,.slice none 0 0],.int .i64 (c:Int)])) w':=by
 subst hm;exact⟨⟨#[]⟩,[],none,0,c,rfl,⟨rfl,rfl,rfl⟩,aC.nil _ _ _ _,hb⟩
section
end
structure BoxM (w:World)(wd:ByteArray)(ao:Option Addr)(n cap:Nat)(wr:World):Prop where
 box:wr.heap[w.heap.size]? = some (.cells #[.string wd,.slice ao n cap] 172 (0,0))
 below:Below w.heap.size w wr
section
variable {w wr w':World} {wd:ByteArray} {ao:Option Addr} {n cap:Nat}
theorem BoxM.size (h:BoxM w wd ao n cap wr):w.heap.size<wr.heap.size:=(Array.getElem?_eq_some_iff.1 h.box).1
theorem BoxM.keep (h:BoxM w wd ao n cap wr)(hb:Below wr.heap.size wr w'):BoxM w wd ao n cap w':=by
 have hs:=h.size;exact⟨(hb.block _ hs).trans h.box,h.below.trans (hb.mono (by omega))⟩
theorem BoxM.start (w:World)(wd:ByteArray)(ao:Option Addr)(n cap:Nat):BoxM w wd ao n cap (w.alloc (.cells #[.string wd,.slice ao n cap] 172)):=⟨heap_alloc_new w _,(Below.refl _ _).alloc (Nat.le_refl _) _⟩
theorem BoxM.cells (h:BoxM w wd ao n cap wr):wr.cell? ⟨w.heap.size,0,none⟩=some (.string wd)∧wr.cell? ⟨w.heap.size,1,none⟩=some (.slice ao n cap):=⟨cell_of_row wr _ 0 _ _ _ h.box,cell_of_row wr _ 1 _ _ _ h.box⟩
end
theorem PN (w:World)(p:Nat)(c:UInt8)(hp:p=1∨p=2∨p=3∨p=4):
 Calls prog 296 #[.int .i64 (p:Int),.int .u8 c.toNat] w fun e w'=>e=.returned (.tuple #[.int .i64 ((Fm.turn p c).1:Int),.int .i64 ((Fm.turn p c).2:Int)])∧w'=w:=by
 have T:∀d:UInt8,((c.toNat:Int)==(d.toNat:Int))=decide (c=d):=fun d=>by
  rw[Bool.eq_iff_iff,beq_iff_eq,decide_eq_true_eq];constructor
  . intro e;exact UInt8.toNat_inj.1 (by omega)
  . intro e;rw[e]
 have t10:((c.toNat:Int)==10)=decide (c=10):=T 10;have n10:((c.toNat:Int) != 10)=!decide (c=10):=by rw[<-t10];rfl
 have t45:((c.toNat:Int)==45)=decide (c=45):=T 45;have t32:((c.toNat:Int)==32)=decide (c=32):=T 32;have t9:((c.toNat:Int)==9)=decide (c=9):=T 9;have UG:((c.toNat:Int)==13)=decide (c=13):=T 13;clear T;have hv:∃x y:Nat,Fm.turn p c=(x,y):=⟨_,_,rfl⟩;obtain⟨x,y,hxy⟩:=hv;have Si:=H9 hxy;rw[hxy];unfold Fm.turn at Si;generalize (c.toNat:Int)=ci at *;clear hxy;rcases hp with rfl | rfl | rfl | rfl
 . have jm:Hid ((if c=45 then (2,0) else if c=32∨c=9 then (3,0) else if c=13 then (4,0) else (0,5))=(x,y)):=by
    have:=Si.o;rw[if_neg (by decide),if_neg (by decide)] at this;unfold Hid;simpa using this
   clear Si;by_cases h45:c=45
   . obtain⟨rfl,rfl⟩:2=x∧0=y:=by have:=jm.o;rw[if_pos h45] at this;simpa using this
     rw[decide_eq_true h45] at t45;clear h45 jm;go_enter func296,ntmps296;go_wp2;go_ret2;exact⟨rfl,rfl⟩
   . rw[decide_eq_false h45] at t45;by_cases hb:c=32∨c=9
     . obtain⟨rfl,rfl⟩:3=x∧0=y:=by have:=jm.o;rw[if_neg h45,if_pos hb] at this;simpa using this
       rcases hb with hb | hb
       . rw[decide_eq_true hb] at t32;clear h45 jm hb;go_enter func296,ntmps296;go_wp2;go_ret2;exact⟨rfl,rfl⟩
       . rw[decide_eq_false (by rw[hb];decide)] at t32;rw[decide_eq_true hb] at t9;clear h45 jm hb;go_enter func296,ntmps296;go_wp2;go_ret2;exact⟨rfl,rfl⟩
     . rw[decide_eq_false (fun e=>hb (Or.inl e))] at t32;rw[decide_eq_false (fun e=>hb (Or.inr e))] at t9;by_cases ql:c=13
       . obtain⟨rfl,rfl⟩:4=x∧0=y:=by have:=jm.o;rw[if_neg h45,if_neg hb,if_pos ql] at this;simpa using this
         rw[decide_eq_true ql] at UG;clear h45 jm hb ql;go_enter func296,ntmps296;go_wp2;go_ret2;exact⟨rfl,rfl⟩
       . obtain⟨rfl,rfl⟩:0=x∧5=y:=by have:=jm.o;rw[if_neg h45,if_neg hb,if_neg ql] at this;simpa using this
         rw[decide_eq_false ql] at UG;clear h45 jm hb ql;go_enter func296,ntmps296;go_wp2;go_ret2;exact⟨rfl,rfl⟩
 . have jm:Hid ((if c=45 then (6,0) else (0,5))=(x,y)):=by
    have:=Si.o;rw[if_neg (by decide),if_pos rfl] at this;exact this
   clear Si;by_cases h45:c=45
   . obtain⟨rfl,rfl⟩:6=x∧0=y:=by have:=jm.o;rw[if_pos h45] at this;simpa using this
     rw[decide_eq_true h45] at t45;clear h45 jm;go_enter func296,ntmps296;go_wp2;go_ret2;exact⟨rfl,rfl⟩
   . obtain⟨rfl,rfl⟩:0=x∧5=y:=by have:=jm.o;rw[if_neg h45] at this;simpa using this
     rw[decide_eq_false h45] at t45;clear h45 jm;go_enter func296,ntmps296;go_wp2;go_ret2;exact⟨rfl,rfl⟩
 . have jm:Hid ((if c=32∨c=9 then (3,0) else if c=13 then (4,0) else (0,5))=(x,y)):=by
    have:=Si.o;rw[if_neg (by decide),if_neg (by decide),if_neg (fun e=>by have:=e.1;omega)] at this;exact this
   clear Si;by_cases hb:c=32∨c=9
   . obtain⟨rfl,rfl⟩:3=x∧0=y:=by have:=jm.o;rw[if_pos hb] at this;simpa using this
     rcases hb with hb | hb
     . rw[decide_eq_true hb] at t32;clear jm hb;go_enter func296,ntmps296;go_wp2;go_ret2;exact⟨rfl,rfl⟩
     . rw[decide_eq_false (by rw[hb];decide)] at t32;rw[decide_eq_true hb] at t9;clear jm hb;go_enter func296,ntmps296;go_wp2;go_ret2;exact⟨rfl,rfl⟩
   . rw[decide_eq_false (fun e=>hb (Or.inl e))] at t32;rw[decide_eq_false (fun e=>hb (Or.inr e))] at t9;by_cases ql:c=13
     . obtain⟨rfl,rfl⟩:4=x∧0=y:=by have:=jm.o;rw[if_neg hb,if_pos ql] at this;simpa using this
       rw[decide_eq_true ql] at UG;clear jm hb ql;go_enter func296,ntmps296;go_wp2;go_ret2;exact⟨rfl,rfl⟩
     . obtain⟨rfl,rfl⟩:0=x∧5=y:=by have:=jm.o;rw[if_neg hb,if_neg ql] at this;simpa using this
       rw[decide_eq_false ql] at UG;clear jm hb ql;go_enter func296,ntmps296;go_wp2;go_ret2;exact⟨rfl,rfl⟩
 . have jm:Hid ((if c=10 then (5,0) else (0,2))=(x,y)):=by
    have:=Si.o;rw[if_pos rfl] at this;exact this
   clear Si;by_cases h10:c=10
   . obtain⟨rfl,rfl⟩:5=x∧0=y:=by have:=jm.o;rw[if_pos h10] at this;simpa using this
     rw[decide_eq_true h10] at t10 n10;clear h10 jm;go_enter func296,ntmps296;go_wp2;go_ret2;exact⟨rfl,rfl⟩
   . obtain⟨rfl,rfl⟩:0=x∧2=y:=by have:=jm.o;rw[if_neg h10] at this;simpa using this
     rw[decide_eq_false h10] at t10 n10;clear h10 jm;go_enter func296,ntmps296;go_wp2;go_ret2;exact⟨rfl,rfl⟩
theorem L8 (w:World)(g:Nat)(fo:Option Addr)(nf ak:Nat)(c3:w.cell? ⟨g,3,none⟩=some (.slice fo nf ak))(f3:w.frozen? ⟨g,3,none⟩=false):
 Calls prog 306 #[.pointer (some ⟨g,2,none⟩)] w fun e w'=>e=.returned (.slice fo nf ak)∧w'=w.setCell ⟨g,3,none⟩ (.slice none 0 0):=by
 go_enter func306,ntmps306;go_wp2;go_ret;exact⟨rfl,rfl⟩
theorem L9 {m:List UInt8}(h2:m.take 2=[13,10])(h3:3<=m.length):Sk.after m 0 13=1∧Sk.after m 1 10=2:=by
 have hm1:m.take 1=[13]:=by
  have:=congrArg (List.take 1) h2;rw[List.take_take] at this;simpa using this
 have f0:Sk.fit m 0 13=1:=by
  refine Sk.jd.best ⟨by omega,by rw[hm1];exact List.suffix_refl _,fun k h1 _ hs=>?_⟩;have:=hs.length_le;rw[List.length_take] at this;simp at this;omega
 have f1:Sk.fit m 1 10=2:=by
  refine Sk.jd.best ⟨by omega,by rw[h2,hm1];exact List.suffix_refl _,fun k h1 _ hs=>?_⟩;have:=hs.length_le;rw[List.length_take] at this;simp at this;omega
 constructor
 . unfold Sk.after Sk.found;rw[f0];simp;omega
 . unfold Sk.after Sk.found;rw[f1];simp;omega
theorem qz (w:World)(g gs:Nat)(m:List UInt8)(p:Ia)(v:Value)(c0:w.cell? ⟨g,0,none⟩=some (.pointer (some ⟨gs,0,none⟩)))(c1:w.cell? ⟨g,1,none⟩=some v)(f1:w.frozen? ⟨g,1,none⟩=false)(hne:g≠gs)(hS:gI w gs m 0 p)(h2:m.take 2=[13,10])(h3:3<=m.length)(hL:m.length<=1000000):
 Calls prog 232 #[.pointer (some ⟨g,0,none⟩)] w fun e w'=>∃w1,e=.returned (.tuple #[])∧w'=w1.setCell ⟨g,1,none⟩ (.int .i64 2)∧gI w1 gs m 2 p∧w.grownBy w1 (some gs):=by
 have HA:=H9 (L9 h2 h3);have HS:=H9 hS;have HC:Hid (∀W,w.grownBy W (some gs)->W.cell? ⟨g,0,none⟩=some (.pointer (some ⟨gs,0,none⟩))∧W.cell? ⟨g,1,none⟩=some v∧W.frozen? ⟨g,1,none⟩=false):=fun W hG=>by
  have hn:(some g:Option Nat)≠some gs:=fun e=>hne (by injection e);refine⟨hG.cell c0 hn,hG.cell c1 hn,?_⟩;rw[World.frozen?_of_block (a:=⟨g,1,none⟩) (hG.block g (World.block_lt_of_cell? w _ c0) hn)];exact f1
 have HL:Hid (3<=m.length∧m.length<=1000000):=⟨h3,hL⟩;clear hS h2 h3 hL c0 c1 f1;go_enter func232,ntmps232;go_wp2;go_loopw [3] (fun vi wr=>∃k:Nat,k<=2∧vi=.int .i64 k∧gI wr gs m k p∧w.grownBy wr (some gs)) (fun vi _=>2-(intOf vi).toNat)
 case atStart=>exact⟨0,by omega,rfl,HS.o,⟨rfl,rfl,rfl,Nat.le_refl _,fun _ _ _=>rfl⟩⟩
 case round =>
  clear HS;obtain⟨k,hk,rfl,hS,hG⟩:=hrel;have HS:=H9 hS;have HG:=H9 hG
  obtain⟨c0,c1,f1⟩:=HC.o wr hG;clear hS hG;by_cases h2:k=2
  . subst h2;go_wp2;go_end0
    exact⟨wr,rfl,rfl,HS.o,HG.o⟩
  . by_cases h0:k=0
    . subst h0;have HF:=H9 (fun(W:World) (hW:gI W gs m 0 p)=>uF W gs m 0 13 p hW (Nat.zero_le _) HL.o.2);rw[HA.o.1] at HF;generalize (Sk.out m 0 13)=oo at HF;generalize (Sk.found m 0 13)=ff at HF;have Sb:=H9 (HS.o.stay (aA _ _));go_wp2;go_region_held3 (fun w'=>w'.cell? ⟨g,0,none⟩=some (.pointer (some ⟨gs,0,none⟩))) (go_keep) (first | (go_at_call 267;refine(HF.o _ Sb.o).mono ?_;rintro e w2 ⟨aD,cap',rfl,hO,hS2,hG2⟩;have hG3:=dz HG.o (dz (kF _ _) hG2);have c0':=(HC.o _ hG3).1;have HS2:=H9 hS2;have HG2:=H9 hG3;clear hO hS2 hG2 hG3))
      all_goals
       go_wp2;go_roundw
       case rel=>exact⟨1,by omega,by go_num,HS2.o,HG2.o⟩
       case measure=>simp[intOf]
    . obtain rfl:k=1:=by omega
      have HF:=H9 (fun(W:World) (hW:gI W gs m 1 p)=>uF W gs m 1 10 p hW (by have:=HL.o.1;omega) HL.o.2);rw[HA.o.2] at HF;generalize (Sk.out m 1 10)=oo at HF;generalize (Sk.found m 1 10)=ff at HF;have Sb:=H9 (HS.o.stay (aA _ _));go_wp2;go_region_held3 (fun w'=>w'.cell? ⟨g,0,none⟩=some (.pointer (some ⟨gs,0,none⟩))) (go_keep) (first | (go_at_call 267;refine(HF.o _ Sb.o).mono ?_;rintro e w2 ⟨aD,cap',rfl,hO,hS2,hG2⟩;have hG3:=dz HG.o (dz (kF _ _) hG2);have c0':=(HC.o _ hG3).1;have HS2:=H9 hS2;have HG2:=H9 hG3;clear hO hS2 hG2 hG3))
      all_goals
       go_wp2;go_roundw
       case rel=>exact⟨2,by omega,by go_num,HS2.o,HG2.o⟩
       case measure=>simp[intOf]
inductive TQ (w:World)(g gs ah:Nat)(m:List UInt8)(h:Nat)(c:UInt8)(p:Ia)(e:Ending)(w':World):Prop
 | mk (w1:World) (ao:Option Addr) (cap n:Nat) (he:e=.returned (.tuple #[.slice ao n cap,.bool (Sk.found m h c)])) (hn:n=((Sk.out m h c).drop ah).length) (hw:w'=w1.setCell ⟨g,1,none⟩ (.int .i64 ((ah-(Sk.out m h c).length:Nat):Int))) (hB:aU w1 ao cap ((Sk.out m h c).drop ah)) (hlo:∀a,ao=some a->w.heap.size<=a.block) (hS:gI w1 gs m (Sk.after m h c) p) (hG:w.grownBy w1 (some gs))
theorem yY (w:World)(g gs ah:Nat)(m:List UInt8)(h:Nat)(c:UInt8)(p:Ia)(c0:w.cell? ⟨g,0,none⟩=some (.pointer (some ⟨gs,0,none⟩)))(c1:w.cell? ⟨g,1,none⟩=some (.int .i64 (ah:Int)))(f1:w.frozen? ⟨g,1,none⟩=false)(hne:g≠gs)(hS:gI w gs m h p)(hh:h<=m.length-1)(hL:m.length<=1000)(ha:ah<=1000):
 Calls prog 292 #[.pointer (some ⟨g,0,none⟩),.int .u8 c.toNat] w fun e w'=>TQ w g gs ah m h c p e w':=by
 have HF:=H9 (uF w gs m h c p hS hh (by omega));have hol:=Fm.qJ m h c hh;have HC:Hid (∀W,w.grownBy W (some gs)->W.cell? ⟨g,0,none⟩=some (.pointer (some ⟨gs,0,none⟩))∧W.cell? ⟨g,1,none⟩=some (.int .i64 (ah:Int))∧W.frozen? ⟨g,1,none⟩=false):=fun W hG=>by
  have hn:(some g:Option Nat)≠some gs:=fun e=>hne (by injection e);refine⟨hG.cell c0 hn,hG.cell c1 hn,?_⟩;rw[World.frozen?_of_block (a:=⟨g,1,none⟩) (hG.block g (World.block_lt_of_cell? w _ c0) hn)];exact f1
 have hMk:∀(w1:World) (ao dN:Option Addr) (cap n k:Nat),aT w1 w.heap.size 5 ao cap (Sk.out m h c)->gI w1 gs m (Sk.after m h c) p->w.grownBy w1 (some gs)->k=min ah (Sk.out m h c).length->n=(Sk.out m h c).length-k->(cap≠k->dN=ao.map (·.add k))->(cap=k->dN=ao)->TQ w g gs ah m h c p (.returned (.tuple #[.slice dN n (cap-k),.bool (Sk.found m h c)])) (w1.setCell ⟨g,1,none⟩ (.int .i64 ((ah-(Sk.out m h c).length:Nat):Int))):=fun w1 ao dN cap n k hO hS2 hG hk hn h1 h2=>by
  subst hk;have hd:(Sk.out m h c).drop ah=(Sk.out m h c).drop (min ah (Sk.out m h c).length):=by
   rcases Nat.le_total ah (Sk.out m h c).length with e | e
   . rw[Nat.min_eq_left e]
   . rw[Nat.min_eq_right e,List.drop_eq_nil_of_le e,List.drop_eq_nil_of_le (Nat.le_refl _)]
  have hcut:=hO.qc.cut (aD:=dN) (min ah (Sk.out m h c).length) (Sk.out m h c).length (Nat.min_le_right _ _) (Nat.le_refl _) h1;rw[List.take_of_length_le (by rw[List.length_drop];omega),<-hd] at hcut;refine .mk w1 dN (cap-min ah (Sk.out m h c).length) n rfl (by rw[hd,List.length_drop];exact hn) rfl hcut (fun a e=>?_) hS2 hG;by_cases hc:cap=min ah (Sk.out m h c).length
  . rw[h2 hc] at e;exact(hO.block a e).1
  . rw[h1 hc] at e;cases ao with
    | none=>cases e
    | some a0=>simp at e;subst e;rw[add_block];exact(hO.block a0 rfl).1
 have Vo:=H9 hMk;generalize hout:Sk.out m h c=out at *;generalize Vp:Sk.found m h c=fd at *;obtain⟨no,hno⟩:∃no,out.length=no:=⟨_,rfl⟩;have lY:=H9 hno;rw[hno] at HF hol Vo;clear hMk c1 f1 hS hout Vp hno;go_enter func292,ntmps292;go_wp2_with fail
 refine HF.o.mono ?_;rintro e w1 ⟨ao,cap,rfl,hO,hS2,hG⟩;clear c0;obtain⟨c0,c1,f1⟩:=HC.o w1 hG;have hcap:no<=cap:=by have:=hO.qc.1;rw[lY.o] at this;exact this
 have hnil:ao=none->cap=0:=hO.qc.2.1;have HR:=H9 (fun dN n k=>Vo.o w1 ao dN cap n k hO hS2 hG);clear hO hS2 hG HF Vo;by_cases hle:ah<=no
 . have e1:min (ah:Int) (no:Int)=ah:=by omega
   have e2:ah-no=0:=by omega
   have e3:min ah no=ah:=Nat.min_eq_left hle;rw[e2,e3] at HR;by_cases hac:cap=ah
   . obtain rfl:no=ah:=by omega
     subst hac;go_wp2;go_ret2;have:=HR.o ao 0 cap rfl (by omega) (fun e=>absurd rfl e) (fun _=>rfl);simpa using this
   . cases ao with
     | none=>have:=hnil rfl;omega
     | some a0 =>
       go_wp2;go_ret2;exact HR.o _ _ ah rfl rfl (fun _=>rfl) (fun e=>absurd e hac)
 . have e1:min (ah:Int) (no:Int)=no:=by omega
   have e3:min ah no=no:=Nat.min_eq_right (by omega);have e4:((ah-no:Nat):Int)=(ah:Int)-no:=by omega
   rw[e3,e4] at HR;by_cases hac:cap=no
   . subst hac;go_wp2;go_ret2;have:=HR.o ao 0 cap rfl (by omega) (fun e=>absurd rfl e) (fun _=>rfl);simpa using this
   . cases ao with
     | none=>have:=hnil rfl;omega
     | some a0 =>
       go_wp2;go_ret2;have:=HR.o (some (a0.add no)) 0 no rfl (by omega) (fun _=>rfl) (fun e=>absurd e hac);simpa using this
def Ua (m:List UInt8)(k j:Nat):Value:=if j<=k then bkR m j else .int .i64 0
def oQ (w:World)(lo g gb:Nat)(m:List UInt8)(mo:Option Addr)(cap k:Nat):Prop :=
 w.heap[g]? = some (.cells #[.slice mo m.length cap,.slice (some ⟨gb,0,none⟩) m.length m.length,.int .i64 0] 298 (0,0)) ∧
  aT w lo 5 mo cap m∧w.rowIs gb 3 m.length (Ua m k)∧lo<=g∧lo<=gb
theorem zeros (m:List UInt8)(j:Nat):Value.int .i64 0=Ua m 1 j:=by
 unfold Ua;split
 . have e:j=0∨j=1:=by omega
   rcases e with rfl | rfl <;> rfl
 . rfl
theorem Vz {w w1:World}{m:List UInt8}{ao:Option Addr}{cap:Nat}(hO:aT w1 w.heap.size 5 ao cap m)(hb:Below w.heap.size w w1):
 oQ ((w1.alloc (.cells (madeCells #[.int .i64 0] m.length) 3)).alloc (.cells #[.slice ao m.length cap,.slice (some ⟨w1.heap.size,0,none⟩) m.length m.length,.int .i64 0] 298)) w.heap.size (w1.heap.size+1) w1.heap.size m ao cap 1 ∧
 Below w.heap.size w ((w1.alloc (.cells (madeCells #[.int .i64 0] m.length) 3)).alloc (.cells #[.slice ao m.length cap,.slice (some ⟨w1.heap.size,0,none⟩) m.length m.length,.int .i64 0] 298)):=by
 have hs:=hb.size;refine⟨⟨?_,(hO.alloc _).alloc _,((World.rowIs_made w1 _ _ _).alloc _).congr (fun j _=>zeros m j),by omega,hs⟩,(hb.alloc hs _).alloc (by simp;omega) _⟩;have:=heap_alloc_new (w1.alloc (.cells (madeCells #[.int .i64 0] m.length) 3)) (.cells #[.slice ao m.length cap,.slice (some ⟨w1.heap.size,0,none⟩) m.length m.length,.int .i64 0] 298);simpa using this
theorem VA {w w1:World}{m:List UInt8}{ao:Option Addr}{cap:Nat}(hO:aT w1 (w.alloc (.cells (madeCells #[.int .i64 0] m.length) 3)).drew.heap.size 5 ao cap m)(hb:Below (w.alloc (.cells (madeCells #[.int .i64 0] m.length) 3)).drew.heap.size (w.alloc (.cells (madeCells #[.int .i64 0] m.length) 3)).drew w1):
 oQ (w1.alloc (.cells #[.slice ao m.length cap,.slice (some ⟨w.heap.size,0,none⟩) m.length m.length,.int .i64 0] 298)) w.heap.size w1.heap.size w.heap.size m ao cap 1 ∧
 Below w.heap.size w (w1.alloc (.cells #[.slice ao m.length cap,.slice (some ⟨w.heap.size,0,none⟩) m.length m.length,.int .i64 0] 298)):=by
 have hs:=hb.size;have e:(w.alloc (.cells (madeCells #[.int .i64 0] m.length) 3)).drew.heap.size=w.heap.size+1:=by simp
 rw[e] at hO hb hs;replace hb:=(aA _ (w.alloc (.cells (madeCells #[.int .i64 0] m.length) 3))).trans hb;refine⟨⟨heap_alloc_new w1 _,(hO.mono (by omega)).alloc _,(((World.rowIs_made w _ _ _).of_block (hb.block _ (by omega))).alloc _).congr (fun j _=>zeros m j),by omega,Nat.le_refl _⟩,(((Below.refl _ _).alloc (Nat.le_refl _) _).trans (hb.mono (by omega))).alloc (by omega) _⟩
theorem P9 (m:List UInt8)(ao:Option Addr)(cap:Nat)(w:World)(h:aU w ao cap m)(hL:m.length<=1000000):
 Calls prog 231 #[.slice ao m.length cap] w fun e w'=>∃g p,e=.returned (.pointer (some ⟨g,0,none⟩))∧gI w' g m 0 p∧w.heap.size<=g∧w.heap.size<=p.gb∧(∀a,p.mo=some a->w.heap.size<=a.block)∧Below w.heap.size w w':=by
 have H:=H9 h;have HC:=H9 (fun(W:World) (hW:aU W ao cap m)=>Bo m ao cap W hW (by omega));have hmk:=run_make_row' (P:=prog) 55 3 (.int .i64 0) 8 underlying55 DY rfl .i64 .i64 m.length (by omega) (by omega);clear h;go_enter func231,ntmps231;go_upto_region 1 with fail
 go_cut [3] (fun p wc=>∃g gb mo cap',p=.pointer (some ⟨g,0,none⟩)∧oQ wc w.heap.size g gb m mo cap' 1∧Below w.heap.size w wc)
 case first =>
  go_region_with (go_at_call 265;refine(HC.o _ (by first | exact H.o | exact H.o.alloc _)).mono ?_;rintro e w1 ⟨aD,cap',rfl,hO,hB⟩;have HO:=H9 hO;have HB:=H9 hB;clear hO hB)
  all_goals (go_wp2_with fail;go_meet;first | exact⟨_,_,_,_,rfl,Vz HO.o ((aA _ w).trans HB.o)⟩ | exact⟨_,_,_,_,rfl,VA HO.o HB.o⟩)
 case rest =>
  obtain⟨g,gb,mo,cap',rfl,hP,hB⟩:=hcut;have HP:=H9 hP;clear hP HC hmk H;go_wp2;go_loopw [4] (fun t wr=>∃n:Nat,0<n∧n<=m.length+1∧t=.int .i64 n∧oQ wr w.heap.size g gb m mo cap' n∧Below w.heap.size w wr) (fun t _=>m.length+1-(intOf t).toNat)
  case atStart=>exact⟨1,by omega,by omega,rfl,HP.o,hB⟩
  case round =>
   obtain⟨n,hn0,hnl,rfl,hP,hb⟩:=hrel;clear HP hB;have HP:=H9 hP;obtain⟨hg,hm,hk,UH,hlb⟩:=hP;have c0:wr.cell? ⟨g,0,none⟩=some (.slice mo m.length cap'):=cell_of_row wr g 0 _ _ _ hg;have c1:wr.cell? ⟨g,1,none⟩=some (.slice (some ⟨gb,0,none⟩) m.length m.length):=cell_of_row wr g 1 _ _ _ hg;by_cases hlt:n+1<m.length
   . obtain⟨gm,rfl,_,hmc⟩:=hm.head (by omega);have cm:=hmc n (by omega);have cb:wr.cell? ⟨gb,n,none⟩=some (.int .i64 (Sk.bk m n)):=by
      rw[hk.cell (by omega)];unfold Ua;rw[if_pos (Nat.le_refl _)];rfl
     have cb1:wr.cell? ⟨gb,n+1,none⟩=some (.int .i64 0):=by
      rw[hk.cell hlt];unfold Ua;rw[if_neg (by omega)]
     have fb1:wr.frozen? ⟨gb,n+1,none⟩=false:=hk.frozen _;have hgb:gb≠g:=Ae hg hk (by decide);have hmb:gm≠gb:=by
      intro e;subst e;obtain⟨cc,hcc,_⟩:=hk;have:=fB hcc hm (by decide);simp[Value.ownBlock] at this
     have hbl:=Sk.NT m n hn0;have HF:=H9 (JR m (Sk.bk m n) m[n] g gm gb cap' wr.drew (by omega) (by omega) c0 c1 hmc (fun j hj0 hjn=>by
      refine(hk.cell (show j<m.length by omega)).trans ?_;unfold Ua;rw[if_pos (by omega)];rfl))
     rw[<-Sk.Rl m n hn0 (by omega)] at HF;have HK:Hid (oQ (wr.drew.setCell ⟨gb,n+1,none⟩ (.int .i64 (Sk.bk m (n+1)))) w.heap.size g gb m (some ⟨gm,0,none⟩) cap' (n+1)∧Below w.heap.size w (wr.drew.setCell ⟨gb,n+1,none⟩ (.int .i64 (Sk.bk m (n+1))))):=by
      refine⟨⟨?_,?_,(hk.set (n+1) (.int .i64 (Sk.bk m (n+1)))).congr (fun j _=>?_),UH,hlb⟩,(hb.trans (aA _ _)).setCell hlb _⟩
      . rw[heap_setCell_other _ _ _ _ (fun e=>hgb e.symm)];exact hg
      . exact aT.kept (w:=wr.drew) hm ⟨rfl,rfl,rfl,by simp[World.setCell],fun k _ hne=>heap_setCell_other _ _ k _ (fun e=>hne (by rw[e]))⟩ (row:=some gb) (fun a e=>by cases e;intro e;injection e with e;exact hmb e)
      . unfold Ua;by_cases e:j=n+1
        . subst e;rw[if_pos rfl,if_pos (Nat.le_refl _)];rfl
        . rw[if_neg e];by_cases e2:j<=n
          . rw[if_pos e2,if_pos (by omega)]
          . rw[if_neg e2,if_neg (by omega)]
     generalize Sk.bk m (n+1)=r at HF HK;generalize Sk.bk m n=q at HF cb hbl;generalize m[n]=x at HF cm;have ht:decide ((n:Int)+1<m.length)=true:=by rw[decide_eq_true_eq];omega
     have b1:(n:Int)<m.length:=by omega
     have b2:(n:Int)+1<m.length:=by omega
     have b3:IntKind.i64.wrap ((n:Int)+1)=(n:Int)+1:=gL (by omega) (by omega);have b4:(0:Int)<=(n:Int)+1:=by omega
     have b5:((n:Int)+1).toNat=n+1:=by omega
     have k1:(wr.setCell ⟨gb,n+1,none⟩ (.int .i64 (r:Int))).cell? ⟨gm,n,none⟩=some (.int .u8 (x.toNat:Int)):=(World.cell?_setCell_other wr ⟨gb,n+1,none⟩ ⟨gm,n,none⟩ _ (fun e=>by injection e with e _ _;exact hmb e.symm)).trans cm;have k2:(wr.setCell ⟨gb,n+1,none⟩ (.int .i64 (r:Int))).cell? ⟨gb,n,none⟩=some (.int .i64 (q:Int)):=(World.cell?_setCell_other wr ⟨gb,n+1,none⟩ ⟨gb,n,none⟩ _ (fun e=>by injection e with _ e _;omega)).trans cb;clear hg hm hk HP hmc;go_wp2;go_region_held3 (fun w'=>w'.cell? ⟨g,0,none⟩=some (.slice (some ⟨gm,0,none⟩) m.length cap')∧w'.cell? ⟨g,1,none⟩=some (.slice (some ⟨gb,0,none⟩) m.length m.length)∧w'.cell? ⟨gm,n,none⟩=some (.int .u8 (x.toNat:Int))∧w'.cell? ⟨gb,n,none⟩=some (.int .i64 (q:Int))) (go_keep) (first | (go_at_call 266;refine HF.o.mono ?_;rintro e w' ⟨rfl,rfl⟩))
     all_goals
      clear k1 k2;go_wp2;go_roundw
      case rel=>exact⟨n+1,by omega,by omega,by go_num,HK.o.1,HK.o.2⟩
      case measure=>simp[intOf];omega
   . have ht:decide ((n:Int)+1<m.length)=false:=by rw[decide_eq_false_iff_not];omega
     have HF:Hid (gI wr g m 0 ⟨mo,cap',gb⟩):=⟨hg,hm.mono (Nat.zero_le _),hk.congr (fun j hj=>by unfold Ua;rw[if_pos (by omega)])⟩;have TF:Hid (∀a,mo=some a->w.heap.size<=a.block):=fun a e=>(hm.block a e).1;clear hg hm hk HP;go_wp2;go_ret;exact⟨g,⟨mo,cap',gb⟩,rfl,HF.o,UH,hlb,TF.o,hb⟩
end Go.Proofs.YtjmndjmhjleabaaGreatDoor