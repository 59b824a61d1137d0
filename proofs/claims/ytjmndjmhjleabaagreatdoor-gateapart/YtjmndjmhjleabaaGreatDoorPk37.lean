/- Small texts, one behind the other: SqA, SqB, MemKp, TuA, TsA, SqD, RfHA, SqC, SlClone, SqNew, JnD, RqHdT. -/
import Derived.Test.YtjmndjmhjleabaaGreatDoorAl
import Derived.Test.YtjmndjmhjleabaaGreatDoorAm
import Derived.Test.YtjmndjmhjleabaaGreatDoorPk15
import Derived.Test.YtjmndjmhjleabaaGreatDoorPk4
import Derived.Test.YtjmndjmhjleabaaGreatDoorBase
import Derived.Test.YtjmndjmhjleabaaGreatDoorProg
import Derived.Test.YtjmndjmhjleabaaGreatDoorPk10
import Derived.Test.YtjmndjmhjleabaaGreatDoorPk12
import Derived.Test.YtjmndjmhjleabaaGreatDoorPk24
import Derived.Test.YtjmndjmhjleabaaGreatDoorPk11
import Derived.Deep.QuietTactic
import Derived.BigQuiet
import Derived.Lib.SliceRun
import Derived.Test.YtjmndjmhjleabaaGreatDoorPk1
import Derived.Test.YtjmndjmhjleabaaGreatDoorPk8
import Derived.Test.YtjmndjmhjleabaaGreatDoorFlB
set_option maxHeartbeats 1600000
set_option maxRecDepth 100000
open Go.Proofs.Tryz
namespace Go.Proofs.YtjmndjmhjleabaaGreatDoor
open Go.RowKit
abbrev iV (w:World)(S:Nat->Prop)(g:Nat)(s:Sp.St):Prop:=om w S 104 101 5 g s
theorem Jq (i z t id:Int)(m:ay)(bo:ak)(n gK b:Nat)(w:World)(hc:w.cell? ⟨b,0,none⟩=some (.int .i64 id)):
 Calls prog 210 #[.agg #[.int .i64 i,.int .i64 z,.string m,.slice bo n gK,.int .i64 t],.pointer (some ⟨b,0,none⟩)] w fun e w'=>e=.returned (.bool (decide (i=id)))∧w'=w.alloc (.cells #[.int .i64 i,.int .i64 z,.string m,.slice bo n gK,.int .i64 t] 101):=by
 have hb:b<w.heap.size:=gq w _ hc;have hc':(w.alloc (.cells #[.int .i64 i,.int .i64 z,.string m,.slice bo n gK,.int .i64 t] 101)).cell? ⟨b,0,none⟩=some (.int .i64 id):=by
  rw[((fJ w.heap.size w).alloc (aM _) _).cell (p:=⟨b,0,none⟩) hb];exact hc
 go_enter func210,ntmps210;go_wp2;go_ret;exact⟨rfl,rfl⟩
theorem Eh (l:List Sp.Up)(id:Int)(ao:ak)(cap n b:Nat)(w:World)(hl:pW w ao cap l)(hcap:n<=cap)(hn:l.length=n)(hN:n<=1000000)(hc:w.cell? ⟨b,0,none⟩=some (.int .i64 id)):
 Calls prog 209 #[.slice ao n cap,.func (.func 210) #[] #[.pointer (some ⟨b,0,none⟩)]] w fun e w'=>e=.returned (.int .i64 (Sp.pl l id))∧aj w w':=by
 subst hn;have H:=H9 hl;have HC:=H9 hc;have hb:b<w.heap.size:=gq w _ hc;clear hl hc;go_enter func209,ntmps209;go_wp2;go_loopw [8] (fun t wr=>∃k:Nat,k<=l.length∧t=.int .i64 k∧aj w wr∧∀p∈l.take k,p.id≠id) (fun t _=>l.length-(intOf t).toNat)
 case atStart=>exact⟨0,aA _,rfl,fJ _ _,fun p hp=>by simp at hp⟩
 case round =>
  obtain⟨k,hk,rfl,hB,hno⟩:=hrel;have HB:=H9 hB;have HN:=H9 hno;clear hB hno;by_cases hlt:k<l.length
  . obtain⟨bb,oo,s,rfl,hc0,hc1,hc2,hc3,hc4,_⟩:=(H.o.stay HB.o).at_ k hlt;have hlt':(k:Int)<l.length:=by omega
    have HT:Hid (l.take (k+1)=l.take k++[l[k]]):=bO hlt;have HF:=H9 (Jq l[k].id l[k].size l[k].sent id l[k].note s.bo l[k].bytes.length s.gK b wr (by rw[HB.o.cell (p:=⟨b,0,none⟩) hb];exact HC.o));have HB2:Hid (aj w (wr.alloc (.cells #[.int .i64 l[k].id,.int .i64 l[k].size,.string l[k].note,.slice s.bo l[k].bytes.length s.gK,.int .i64 l[k].sent] 101))):=HB.o.alloc HB.o.size _;by_cases he:l[k].id=id
    . rw[aI he] at HF;have HR:Hid (Sp.pl l id=k):=Sp.zu (Sp.Ki l id k hlt he HN.o);clear he HN HT;generalize l[k]=p at *;go_wp2_with fail
      refine HF.o.mono ?_;rintro e w1 ⟨rfl,hw⟩;have HB3:Hid (aj w w1):=by rw[hw];exact HB2.o
      clear hw HB2;go_wp2;go_ret;exact⟨by rw[HR.o];rfl,HB3.o⟩
    . rw[aJ he] at HF;have HE:=H9 he;clear he;generalize l[k]=p at *;go_wp2_with fail
      refine HF.o.mono ?_;rintro e w1 ⟨rfl,hw⟩;have HB3:Hid (aj w w1):=by rw[hw];exact HB2.o
      clear hw HB2;go_wp2;go_roundw
      case rel =>
       refine⟨k+1,by omega,by go_num,HB3.o,fun r hr=>?_⟩;rw[HT.o,bB] at hr;rcases hr with hr | hr
       . exact HN.o r hr
       . rw[bC] at hr;subst hr;exact HE.o
      case measure=>simp[intOf];omega
  . obtain rfl:k=l.length:=by omega
    have HR:Hid (Sp.pl l id=-1):=Sp.zq (Sp.Kj l id fun p hp=>HN.o p (by rw[bP];exact hp));clear HN;go_wp2;go_ret;exact⟨by rw[HR.o];rfl,HB.o⟩
theorem tZ (s:Sp.St)(S:Nat->Prop)(g:Nat)(id:Int)(w:World)(h:iV w S g s)(hN:s.l.length<=1000):
 Calls prog 167 #[.pointer (some ⟨g,0,none⟩),.int .i64 id] w fun e w'=>e=.returned (.int .i64 (Sp.pl s.l id))∧aj w w':=by
 have hB:aj w (w.alloc (.cells #[.int .i64 id] 3)):=(fJ _ _).alloc (aM _) _;have hg:=h.lt;obtain⟨ao,cap,hc0,hc1,hf0,hf1,hr,hS,hU⟩:=h.cells;have HI:=H9 (Eh s.l id ao cap s.l.length w.heap.size (w.alloc (.cells #[.int .i64 id] 3)) (hU.zL.stay hB) hU.cap_ rfl (by omega) (World.cell?_alloc_mark w _ _ _ 0));have hc:(w.alloc (.cells #[.int .i64 id] 3)).cell? ⟨g,0,none⟩=some (.slice ao s.l.length cap):=by rw[hB.cell (p:=⟨g,0,none⟩) hg];exact hc0
 have HB:=H9 hB;have UL:∀(fn:Fn) (first cap:Array Value) (w:World),(Instr.makeFunc fn first cap).run prog w=.ok (.func fn first cap) w:=fun _ _ _ _=>rfl;clear h hB hU hc0 hc1 hf0 hf1 hr hS;generalize s.l=l at *;go_enter func167,ntmps167;go_wp2_with fail
 refine HI.o.mono ?_;rintro e w1 ⟨rfl,hb⟩;have HB1:=H9 (then_ HB.o hb);clear hb;go_wp2;go_ret;exact⟨rfl,HB1.o⟩
theorem R6 (s:Sp.St)(S:Nat->Prop)(g:Nat)(w:World)(h:iV w S g s)(hN:s.l.length<=1000)(hQ:Sp.used s.l<=1000000):
 Calls prog 217 #[.pointer (some ⟨g,0,none⟩)] w fun e w'=>e=.returned (.int .i64 (Sp.used s.l))∧aj w w':=by
 obtain⟨ao,cap,hc0,hc1,hf0,hf1,hr,hS,hU⟩:=h.cells;have H:=H9 hU.zL;have hcap:=hU.cap_;clear h hU hc1 hf0 hf1 hr hS;generalize s.l=l at *;go_enter func217,ntmps217;go_wp2;go_loopw [3,11] (fun v t wr=>∃k:Nat,k<=l.length∧t=.int .i64 k∧v=.int .i64 (Sp.used (l.take k):Int)∧aj w wr) (fun _ t _=>l.length-(intOf t).toNat)
 case atStart=>exact⟨0,aA _,rfl,rfl,fJ _ _⟩
 case round =>
  obtain⟨k,hk,rfl,rfl,hB⟩:=hrel;have HB:=H9 hB;clear hB;have hu:=Sp.Qc l k;by_cases hlt:k<l.length
  . obtain⟨bb,oo,s,rfl,hc0,hc1,hc2,hc3,hc4,_⟩:=(H.o.stay HB.o).at_ k hlt;have hlt':(k:Int)<l.length:=by omega
    have HT:Hid (Sp.used (l.take (k+1))=Sp.used (l.take k)+l[k].bytes.length):=Sp.GN l k hlt;have hone:=Sp.Vb l k hlt;have HB2:Hid (∀ob,aj w (wr.alloc ob)):=fun ob=>HB.o.alloc HB.o.size _;generalize l[k]=p at *;generalize Sp.used (l.take k)=q at *;go_wp2;go_roundw
    case rel =>
     exact⟨k+1,by omega,by go_num,by rw[HT.o];go_num,HB2.o _⟩
    case measure=>simp[intOf];omega
  . obtain rfl:k=l.length:=by omega
    go_wp2;go_ret;exact⟨by rw[bP];rfl,HB.o⟩
theorem lN (w:World)(n:Nat):aj w (w.drewN n):=⟨rfl,rfl,rfl,aM _,fun _ _=>rfl⟩
structure Did (S:Nat->Prop)(tO:Nat)(w:World)(g:Nat)(r:Sp.St×Nat)(e:Ending)(w':World):Prop where
 ret:e=.returned (.int .i64 (r.2:Int))
 at_:om w' (gN S w) tO 101 5 g r.1
 turns:Turns S w w'
def oq (w:World)(g gu n:Nat):Prop:=∃cap,n<=cap∧w.cell? ⟨g,0,none⟩=some (.slice (some ⟨gu,0,none⟩) n cap)
section
variable {w w':World} {S:Nat->Prop} {tO g gu i:Nat} {s:Sp.St}
theorem Did.none_ {c:Nat}(h:om w S tO 101 5 g s)(hb:aj w w'){r:Sp.St×Nat}(hr:r=(s,c)):Did S tO w g r (.returned (.int .i64 (c:Int))) w':=by
 subst hr;exact⟨rfl,(h.stay hb).mono (fun k _ e=>Or.inl e),Turns.of_below hb⟩
theorem Did.put {j:Nat}{v:Value}{u:Sp.Up}(h:om w S tO 101 5 g s)(hp:oq w g gu s.l.length)(hi:i<s.l.length)(hj:j<5)(hv:∀q,(vF s.l[i] q).set j v=vF u q)(hb:u.bytes=s.l[i].bytes){r:Sp.St×Nat}(hr:r=(⟨s.l.set i u,s.last⟩,0)):Did S tO w g r (.returned (.int .i64 0)) (w.setCell ⟨gu,i*5+j,none⟩ v):=by
 subst hr;obtain⟨ao,cap,c0,c1,f0,f1,hg,hS,hU⟩:=h.cells;obtain⟨cap',V7,hc⟩:=hp;rw[c0] at hc;injection hc with hc;injection hc with ha _ _;subst ha;obtain⟨hU2,hT⟩:=hU.put hi hj hv hb;obtain⟨g2,e2,hS2,_,_⟩:=hU.at_.row i hi;injection e2 with e2;injection e2 with e2;subst e2;have hT':Turns S w (w.setCell ⟨gu,i*5+j,none⟩ v):=hT.mono (fun k e=>by subst e;exact hS2.1);refine⟨rfl,⟨some ⟨gu,0,none⟩,cap,?_,Or.inl hS,?_⟩,hT'⟩
 . have:=hT.row hg (fun e=>hS2.2 e.symm);simpa using this
 . exact hU2.mono (fun k _ e=>⟨Or.inl e.1,e.2⟩)
theorem Did.from_ {w1:World}{r:Sp.St×Nat}{e:Ending}(hb:aj w w1)(h:Did S tO w1 g r e w'):Did S tO w g r e w':=by
 have hsz:=hb.size;refine⟨h.ret,h.at_.mono (fun k _ e=>?_),(Turns.of_below hb).trans h.turns (fun _ e _=>e)⟩;rcases e with e | e
 . exact Or.inl e
 . exact Or.inr (by omega)
theorem oq.stay {n:Nat}(h:oq w g gu n)(hb:aj w w'):oq w' g gu n:=by
 obtain⟨cap,h1,h2⟩:=h;exact⟨cap,h1,by rw[hb.cell (gq w _ h2)];exact h2⟩
theorem oq.of (h:om w S tO 101 5 g s)(hi:i<s.l.length):∃gu,oq w g gu s.l.length:=by
 obtain⟨ao,cap,c0,c1,f0,f1,hg,hS,hU⟩:=h.cells;obtain⟨g2,rfl,_⟩:=hU.at_.row i hi;exact⟨g2,cap,hU.cap_,c0⟩
theorem oq.up (h:om w S tO 101 5 g s)(hp:oq w g gu s.l.length)(hi:i<s.l.length):∃q:yQ,w.cell? ⟨gu,i*5,none⟩=some (.int .i64 s.l[i].id)∧w.cell? ⟨gu,i*5+1,none⟩=some (.int .i64 s.l[i].size)∧w.cell? ⟨gu,i*5+2,none⟩=some (.string s.l[i].note)∧w.cell? ⟨gu,i*5+3,none⟩=some (.slice q.bo s.l[i].bytes.length q.gK)∧w.cell? ⟨gu,i*5+4,none⟩=some (.int .i64 s.l[i].sent)∧(∀j,w.frozen? ⟨gu,j,none⟩=false)∧iH w q.bo q.gK s.l[i].bytes:=by
 obtain⟨ao,cap,c0,c1,f0,f1,hg,hS,hU⟩:=h.cells;obtain⟨cap',V7,hc⟩:=hp;rw[c0] at hc;injection hc with hc;injection hc with ha _ _;subst ha;obtain⟨g2,q,e2,_,_,h0,h1,h2,h3,h4,hf,hG,_⟩:=hU.lies i hi;injection e2 with e2;injection e2 with e2;subst e2;exact⟨q,h0,h1,h2,h3,h4,hf,hG.xg⟩
end
abbrev ObP:=World->(Nat->Prop)->Nat->Sr.Sh->Prop
structure Er (O:ObP):Prop where
 turns:∀{w w':World} {S S':Nat->Prop} {g:Nat} {s:Sr.Sh},O w S g s->Turns S' w w'->(∀k,S k->¬S' k)->O w' S g s
 mono:∀{w:World} {S S':Nat->Prop} {g:Nat} {s:Sr.Sh},O w S g s->(∀k,k<w.heap.size->S k->S' k)->O w S' g s
structure zR (O:ObP)(S:Nat->Prop)(w:World)(g:Nat)(r:Sr.Sh×Tu.zk)(e:Ending)(w':World):Prop where
 ret:∃(ao:ak) (cap n:Nat),e=.returned (.agg #[.int .i64 (r.2.1:Int),.slice ao n cap,.slice none 0 0])∧r.2.2.length=n∧gV w' w.heap.size 111 2 ao cap n (gU r.2.2)
 at_:O w' (gN S w) g r.1
 turns:Turns S w w'
structure jv (O:ObP)(S:Nat->Prop)(w:World)(g:Nat)(bs:List Obj)(s:Sr.Sh)(S':Nat->Prop)(W:World):Prop where
 bx:∀i,i<bs.length->W.heap[w.heap.size+i]? = bs[i]?
 sh:O W S' g s
 ap:∀k,S' k->(S k∧k<w.heap.size)∨w.heap.size+bs.length<=k
 tu:Turns (fun k=>S k∧k<w.heap.size) w W
 sz:w.heap.size+bs.length<=W.heap.size
section
variable {O:ObP} {S S' S'':Nat->Prop} {w W W':World} {g:Nat} {bs:List Obj} {s s':Sr.Sh}
theorem jv.start (L:Er O)(h:O w S g s):jv O S w g [] s (fun k=>S k∧k<w.heap.size) w :=
 ⟨fun i hi=>by simp at hi,L.mono h (fun k hk e=>⟨e,hk⟩),fun k e=>Or.inl e,Turns.refl _ _,by simp⟩
theorem jv.stay (L:Er O)(h:jv O S w g bs s S' W)(hb:aj W W'):jv O S w g bs s S' W':=by
 have hz:=h.sz;refine⟨fun i hi=>(hb.block _ (by omega)).trans (h.bx i hi),L.turns h.sh (Turns.of_below (S:=fun _=>False) hb) (fun _ _ e=>e),h.ap,h.tu.trans (Turns.of_below (S:=fun _=>False) hb) (fun _ e _=>e.elim),dG hz hb.size⟩
theorem jv.box (L:Er O)(h:jv O S w g bs s S' W)(he:W.heap.size=w.heap.size+bs.length)(hS:∀k,S' k->k<W.heap.size)(o:Obj):jv O S w g (bs++[o]) s S' (W.alloc o):=by
 have hb:=(fJ _ W).alloc (aM _) o;have h1:=h.stay L hb;refine⟨fun i hi=>?_,h1.sh,fun k e=>?_,h1.tu,by rw[fZ];simp;omega⟩
 . rcases aU i bs.length with hl | hl
   . rw[aY hl];exact h1.bx i hl
   . have:i=bs.length:=by simp at hi;omega
     subst this;rw[bA (aM _),Nat.sub_self,<-he];exact fI W o
 . rcases h.ap k e with h2 | h2
   . exact Or.inl h2
   . have:=hS k e;omega
theorem jv.did (h:jv O S w g bs s S' W)(ho:O W' (gN S' W) g s')(ht:Turns S' W W'):jv O S w g bs s' (gN S' W) W':=by
 have hz:=h.sz;refine⟨fun i hi=>?_,ho,fun k e=>?_,h.tu.trans ht (fun k e hk=>?_),dG hz ht.size⟩
 . refine(ht.block _ (by omega) (fun e=>?_)).trans (h.bx i hi);rcases h.ap _ e with h2 | h2
   . omega
   . omega
 . rcases e with e | e
   . exact h.ap k e
   . exact Or.inr (by omega)
 . rcases h.ap k e with h2 | h2
   . exact h2
   . omega
theorem jv.turned (h:jv O S w g bs s S' W)(ho:O W' S' g s')(ht:Turns S' W W'):jv O S w g bs s' S' W':=by
 have hz:=h.sz;refine⟨fun i hi=>?_,ho,h.ap,h.tu.trans ht (fun k e hk=>?_),dG hz ht.size⟩
 . refine(ht.block _ (by omega) (fun e=>?_)).trans (h.bx i hi);rcases h.ap _ e with h2 | h2
   . omega
   . omega
 . rcases h.ap k e with h2 | h2
   . exact h2
   . omega
theorem jv.row (h:jv O S w g bs s S' W)(i:Nat){o:Obj}(ho:bs[i]? = some o):W.heap[w.heap.size+i]? = some o:=(h.bx i (aQ.1 ho).1).trans ho
theorem jv.ends (L:Er O)(h:jv O S w g bs s S' W){i:Nat}(hi:bs[i]? = some (.cells #[.int .i64 0,.slice none 0 0,.slice none 0 0] 88 (0,0))){b:Nat}(hb:w.heap.size+i=b){st:Nat}{mF:Int}(hst:(st:Int)=mF){l:au}{ao:ak}{cap n:Nat}(hn:l.length=n){base:Nat}(hbs:w.heap.size<=base)(hO:gV W' base 111 2 ao cap n (gU l))(hB:aj W W'):
 (W'.cell? ⟨b,0,none⟩=some (.int .i64 0)∧W'.cell? ⟨b,1,none⟩=some (.slice none 0 0)∧W'.cell? ⟨b,2,none⟩=some (.slice none 0 0)∧W'.frozen? ⟨b,0,none⟩=false∧W'.frozen? ⟨b,1,none⟩=false∧W'.frozen? ⟨b,2,none⟩=false) ∧
 Hid ((((W'.setCell ⟨b,0,none⟩ (.int .i64 mF)).setCell ⟨b,1,none⟩ (.slice ao n cap)).setCell ⟨b,2,none⟩ (.slice none 0 0)).cell? ⟨b,0,none⟩=some (.int .i64 mF)∧(((W'.setCell ⟨b,0,none⟩ (.int .i64 mF)).setCell ⟨b,1,none⟩ (.slice ao n cap)).setCell ⟨b,2,none⟩ (.slice none 0 0)).cell? ⟨b,1,none⟩=some (.slice ao n cap)∧(((W'.setCell ⟨b,0,none⟩ (.int .i64 mF)).setCell ⟨b,1,none⟩ (.slice ao n cap)).setCell ⟨b,2,none⟩ (.slice none 0 0)).cell? ⟨b,2,none⟩=some (.slice none 0 0)∧zR O S w g (s,(st,l)) (.returned (.agg #[.int .i64 mF,.slice ao n cap,.slice none 0 0])) (((W'.setCell ⟨b,0,none⟩ (.int .i64 mF)).setCell ⟨b,1,none⟩ (.slice ao n cap)).setCell ⟨b,2,none⟩ (.slice none 0 0))):=by
 subst hb;subst hst;have h1:=h.stay L hB;have hlt:=(aQ.1 hi).1;have hz:=h.sz;have r:=h1.row i hi;refine⟨⟨fK W' _ 0 _ _ _ r,fK W' _ 1 _ _ _ r,fK W' _ 2 _ _ _ r,fM W' _ 0 _ _ r,fM W' _ 1 _ _ r,fM W' _ 2 _ _ r⟩,?_⟩;have r0:=fO W' (w.heap.size+i) 0 _ _ (.int .i64 (st:Int)) r;have r1:=fO _ (w.heap.size+i) 1 _ _ (.slice ao n cap) r0;have r2:=fO _ (w.heap.size+i) 2 _ _ (.slice none 0 0) r1;have hT:=ig (w.heap.size+i) [.int .i64 (st:Int),.slice ao n cap,.slice none 0 0] 0 W';replace hT:Turns (fun k=>k=w.heap.size+i) W' (((W'.setCell ⟨w.heap.size+i,0,none⟩ (.int .i64 (st:Int))).setCell ⟨w.heap.size+i,1,none⟩ (.slice ao n cap)).setCell ⟨w.heap.size+i,2,none⟩ (.slice none 0 0)):=hT;refine⟨fK _ _ 0 _ _ _ r2,fK _ _ 1 _ _ _ r2,fK _ _ 2 _ _ _ r2,⟨⟨ao,cap,n,rfl,hn,?_⟩,?_,?_⟩⟩
 . have nz:=lG r hO (by decide);rw[gP] at nz;exact(hO.turns hT (fun a e e2=>nz (by rw[e];show some a.block=_;rw[e2]))).mono hbs
 . refine L.mono (L.turns h1.sh hT (fun k e e2=>?_)) (fun k _ e=>?_)
   . rcases h.ap k e with h2 | h2
     . omega
     . omega
   . rcases h.ap k e with h2 | h2
     . exact Or.inl h2.1
     . exact Or.inr (by omega)
 . exact(h1.tu.trans hT (fun k e hk=>by omega)).mono (fun k e=>e.1)
theorem jv.aside (L:Er O)(h:jv O S w g bs s S' W){b:Nat}(ht:Turns (fun k=>k=b) W W')(hb:w.heap.size+bs.length<=b)(hS:¬S' b):jv O S w g bs s S' W':=by
 have hz:=h.sz;refine⟨fun i hi=>(ht.block _ (by omega) (by omega)).trans (h.bx i hi),L.turns h.sh ht (fun k e e2=>hS (by rw[<-e2];exact e)),h.ap,h.tu.trans ht (fun k e hk=>by omega),dG hz ht.size⟩
end
theorem kF (n v:ay)(w:World):Calls prog 87 #[.string n,.string v] w fun e w'=>e=.returned (.agg #[.string n,.string v])∧aj w w':=by
 have c0:(w.alloc (.cells #[.string n,.string v] 111)).cell? ⟨w.heap.size,0,none⟩=some (.string n):=World.cell?_alloc_mark w _ _ _ 0;have c1:(w.alloc (.cells #[.string n,.string v] 111)).cell? ⟨w.heap.size,1,none⟩=some (.string v):=World.cell?_alloc_mark w _ _ _ 1;go_enter func87,ntmps87;go_wp2;exact gy (v:=.agg #[.string n,.string v]) (by simp[results,results87,go_sem,c0,c1]) rfl ⟨rfl,(fJ _ w).alloc (aM _) _⟩
def iT (st:Int)(ao:ak)(n cap:Nat):Ending:=.panicked [{ v:=.iface 157 (.agg #[.int .i64 st,.slice ao n cap,.slice none 0 0]),recovered:=false }]
def qI (w:World)(r:Tu.zk)(e:Ending)(w':World):Prop:=∃(ao:ak) (cap n:Nat),e=iT (r.1:Int) ao n cap∧r.2.length=n∧gV w' w.heap.size 111 2 ao cap n (gU r.2)∧aj w w'
def Lf (w:World)(r:Tu.zk)(e:Ending)(w':World):Prop:=∃(ao:ak) (cap n:Nat),e=.returned (.agg #[.int .i64 (r.1:Int),.slice ao n cap,.slice none 0 0])∧r.2.length=n∧gV w' w.heap.size 111 2 ao cap n (gU r.2)∧aj w w'
theorem qI.from_ {w w1 w':World}{r:Tu.zk}{e:Ending}(hb:aj w w1)(h:qI w1 r e w'):qI w r e w':=by
 obtain⟨ao,cap,n,h1,h2,h3,h4⟩:=h;exact⟨ao,cap,n,h1,h2,h3.mono hb.size,then_ hb h4⟩
theorem BO (st:Nat)(mF:Int)(hst:(st:Int)=mF)(l:au)(mo:ak)(CB n:Nat)(w:World)(hl:jo w mo CB n (gU l))(hn:l.length=n)(hN:n<=1000):
 Calls prog 93 #[.int .i64 mF,.slice mo n CB] w fun e w'=>Lf w (Tu.said st l) e w':=by
 obtain⟨i0,hi0,hz0,hz1,hz2⟩:=info_parts rU;have Hi:=H9 hi0;have kK:=H9 hz0;have kH:=H9 hz1;have kL:=H9 hz2
 have HF:=H9 (kF Tu.AB Tu.jP (w.alloc (.cells #[.int .i64 0,.slice none 0 0,.slice none 0 0] 88)));have HL:=H9 hl;have HN:=H9 hn;have HST:=H9 hst
 have jq:=(fJ _ w).alloc (aM _) (.cells #[.int .i64 0,.slice none 0 0,.slice none 0 0] 88);have oH:=H9 jq;clear hi0 hz0 hz1 hz2 hl hn hst jq;unfold Tu.AB Tu.jP at HF;go_enter func93,ntmps93;go_wp2_with fail
 refine HF.o.mono ?_;rintro e w1 ⟨rfl,hb1⟩;have hr1:w1.heap[w.heap.size]? = some (.cells #[.int .i64 0,.slice none 0 0,.slice none 0 0] 88 (0,0)):=(hb1.block w.heap.size (by simp)).trans (fI w _);have hlt:=(aL.1 hr1).1;have hb2:=then_ (then_ oH.o hb1) ((fJ _ w1).alloc (aM _) (.cells #[.string Tu.AB,.string Tu.jP] 111));have hO:gV (w1.alloc (.cells #[.string Tu.AB,.string Tu.jP] 111)) w.heap.size 111 2 (some ⟨w1.heap.size,0,none⟩) 1 1 [.string Tu.AB,.string Tu.jP]:=gF w1 #[.string Tu.AB,.string Tu.jP] 1 (by omega) (by decide) rfl;have hr2:=(((fJ _ w1).alloc (aM _) (.cells #[.string Tu.AB,.string Tu.jP] 111)).block w.heap.size hlt).trans hr1;have HV:=H9 (HL.o.stay hb2);have HO:=H9 hO;have HE:Hid (∀(jQ:ak) (gX:Nat) (w3:World),gV w3 w.heap.size 111 2 jQ gX (1+n) ([.string Tu.AB,.string Tu.jP]++gU l)->(w1.alloc (.cells #[.string Tu.AB,.string Tu.jP] 111)).grownBy w3 (some w1.heap.size)->(w3.cell? ⟨w.heap.size,0,none⟩=some (.int .i64 0)∧w3.cell? ⟨w.heap.size,1,none⟩=some (.slice none 0 0)∧w3.cell? ⟨w.heap.size,2,none⟩=some (.slice none 0 0)∧w3.frozen? ⟨w.heap.size,0,none⟩=false∧w3.frozen? ⟨w.heap.size,1,none⟩=false∧w3.frozen? ⟨w.heap.size,2,none⟩=false) ∧
  Hid ((((w3.setCell ⟨w.heap.size,0,none⟩ (.int .i64 mF)).setCell ⟨w.heap.size,1,none⟩ (.slice jQ (1+n) gX)).setCell ⟨w.heap.size,2,none⟩ (.slice none 0 0)).heap[w.heap.size]? = some (.cells #[.int .i64 mF,.slice jQ (1+n) gX,.slice none 0 0] 88 (0,0))∧Lf w (Tu.said st l) (.returned (.agg #[.int .i64 mF,.slice jQ (1+n) gX,.slice none 0 0])) (((w3.setCell ⟨w.heap.size,0,none⟩ (.int .i64 mF)).setCell ⟨w.heap.size,1,none⟩ (.slice jQ (1+n) gX)).setCell ⟨w.heap.size,2,none⟩ (.slice none 0 0)))):=fun jQ gX w3 hO3 hG3=>by
  have hr3:=(hG3.block _ (aL.1 hr2).1 (fun e=>by injection e with e;omega)).trans hr2;refine⟨⟨fK w3 _ 0 _ _ _ hr3,fK w3 _ 1 _ _ _ hr3,fK w3 _ 2 _ _ _ hr3,fM w3 _ 0 _ _ hr3,fM w3 _ 1 _ _ hr3,fM w3 _ 2 _ _ hr3⟩,?_⟩;have r0:=fO w3 w.heap.size 0 _ _ (.int .i64 mF) hr3;have r1:=fO _ w.heap.size 1 _ _ (.slice jQ (1+n) gX) r0;have r2:=fO _ w.heap.size 2 _ _ (.slice none 0 0) r1;refine⟨r2,jQ,gX,1+n,by rw[<-HST.o];rfl,?_,?_,?_⟩
  . show(_::l).length=1+n;have:=HN.o;simp only[aX];omega
  . have nz:=lG hr3 hO3 (by decide);rw[gP] at nz;exact hO3.turns (ig w.heap.size [.int .i64 mF,.slice jQ (1+n) gX,.slice none 0 0] 0 w3) (fun a e e2=>nz (by rw[e];show some a.block=_;rw[e2]))
  . have h3:aj w w3:=hb2.grown hG3 hb2.size (fun q e=>by injection e with e;omega);exact h3.trans ((ig w.heap.size [.int .i64 mF,.slice jQ (1+n) gX,.slice none 0 0] 0 w3).below (fun k e=>by omega) h3.size)
 have HZ:Hid (w.heap.size<=(w1.alloc (.cells #[.string Tu.AB,.string Tu.jP] 111)).heap.size):=hb2.size;have MZ:Hid ((gU l).length=n*2):=by unfold Hid;rw[mW,HN.o]
 unfold Tu.AB Tu.jP at HO HV HE HZ;clear hb1 hr1 hlt hb2 hO hr2;go_wp2_with (at_builtin;refine gT rfl (.tmp 7) (.tmp 8) 66 rfl w.heap.size 111 i0 (.agg #[.string ⟨#[]⟩,.string ⟨#[]⟩]) 2 32 underlying66 Hi.o kK.o kH.o kL.o rfl (by decide) rfl HO.o rfl HV.o MZ.o (Gv l) (by omega) (by omega) HZ.o ?_;intro jQ gX w3 hO3 hG3 _;obtain⟨⟨x0,x1,x2,y0,y1,y2⟩,HX⟩:=HE.o jQ gX w3 hO3 hG3;clear hO3 hG3)
 generalize (((w3.setCell ⟨w.heap.size,0,none⟩ (.int .i64 mF)).setCell ⟨w.heap.size,1,none⟩ (.slice jQ (1+n) gX)).setCell ⟨w.heap.size,2,none⟩ (.slice none 0 0))=wf at *;obtain⟨hrow,hD⟩:=HX.o;have q0:wf.cell? ⟨w.heap.size,0,none⟩=some (.int .i64 mF):=fK wf _ 0 _ _ _ hrow;have q1:wf.cell? ⟨w.heap.size,1,none⟩=some (.slice jQ (1+n) gX):=fK wf _ 1 _ _ _ hrow;have q2:wf.cell? ⟨w.heap.size,2,none⟩=some (.slice none 0 0):=fK wf _ 2 _ _ _ hrow;exact gy (v:=.agg #[.int .i64 mF,.slice jQ (1+n) gX,.slice none 0 0]) (by simp[results,results93,go_sem,q0,q1,q2]) rfl hD
theorem jZ (st:Nat)(mF:Int)(hst:(st:Int)=mF)(l:au)(mo:ak)(CB n:Nat)(w:World)(hl:jo w mo CB n (gU l))(hn:l.length=n)(hN:n<=1000):
 Calls prog 93 #[.int .i64 mF,.slice mo n CB] w fun e w'=>∃(ao:ak) (cap k:Nat),e=.returned (.agg #[.int .i64 mF,.slice ao k cap,.slice none 0 0])∧((Tu.AB,Tu.jP)::l).length=k∧gV w' w.heap.size 111 2 ao cap k (gU ((Tu.AB,Tu.jP)::l))∧aj w w':=by
 subst hst;exact BO st _ rfl l mo CB n w hl hn hN
theorem iR (mF:Int)(mo:ak)(n CB:Nat)(w:World):Calls prog 86 #[.bool true,.int .i64 mF,.slice mo n CB] w fun e w'=>e=.returned (.tuple #[])∧w'=w:=by
 go_enter func86,ntmps86;go_wp2;go_end0
 exact⟨rfl,rfl⟩
theorem zS (st:Nat)(mF:Int)(hst:(st:Int)=mF)(l:au)(mo:ak)(CB n:Nat)(w:World)(hl:jo w mo CB n (gU l))(hn:l.length=n)(hN:n<=1000):
 Calls prog 86 #[.bool false,.int .i64 mF,.slice mo n CB] w fun e w'=>qI w (Tu.said st l) e w':=by
 have HA:=H9 (BO st mF hst l mo CB n w hl hn hN);clear hl hn hst;go_enter func86,ntmps86;go_wp2_with fail
 refine HA.o.mono ?_;rintro e w1 ⟨ao,cap,m,rfl,h1,h2,h3⟩;have HG:Hid (qI w (Tu.said st l) (iT ((Tu.said st l).1:Int) ao m cap) w1):=⟨ao,cap,m,rfl,h1,h2,h3⟩;clear h1 h2 h3;go_wp2;exact⟨rfl,HG.o⟩
theorem iW (st:Nat)(mF:Int)(hst:(st:Int)=mF)(w:World):Calls prog 86 #[.bool false,.int .i64 mF,.slice none 0 0] w fun e w'=>qI w (Tu.said st []) e w' :=
 zS st mF hst [] none 0 0 w (jo.nil w) rfl (by decide)
theorem Ws (b o:Nat)(z:Int)(w:World)(hc:w.cell? ⟨b,o+1,none⟩=some (.int .i64 z)):
 Calls prog 216 #[.pointer (some ⟨b,o,none⟩)] w fun e w'=>e=.returned (.int .i64 (if z=-1 then 2000 else z))∧w'=w:=by
 by_cases hz:z=-1
 . subst hz;go_enter func216,ntmps216;go_wp2;go_ret;exact⟨rfl,rfl⟩
 . have HZ:=H9 hz;go_enter func216,ntmps216;go_wp2;go_ret;exact⟨by first | rfl | (rw[if_neg HZ.o];rfl),rfl⟩
theorem NZ (s:Sp.St)(S:Nat->Prop)(g gu i b1:Nat)(sz:Int)(w:World)(h:iV w S g s)(hp:oq w g gu s.l.length)(hi:i<s.l.length)(hz0:-1<=s.l[i].size)(hc:w.cell? ⟨b1,0,none⟩=some (.int .i64 sz)):
 Calls prog 218 #[.pointer (some ⟨gu,i*5,none⟩),.pointer (some ⟨b1,0,none⟩)] w (Did S 104 w g (Sp.jH s sz i s.l[i])):=by
 obtain⟨q,h0,h1,h2,h3,h4,hf,hB⟩:=oq.up h hp hi;by_cases hs:s.l[i].size=-1
 . have n0:¬0<=s.l[i].size:=by omega
   by_cases hneg:sz<0
   . have HR:Hid (Did S 104 w g (Sp.jH s sz i s.l[i]) (.returned (.int .i64 (1:Nat))) w):=Did.none_ h (fJ _ _) (by unfold Sp.jH;rw[if_neg n0,if_pos hneg]);clear h hp hf h0 h2 h3 h4 hB n0;generalize s.l[i]=u at *;go_enter func218,ntmps218;go_wp2;go_ret;exact HR.o
   . have tn:decide (sz<0)=false:=by rw[bQ];exact hneg
     by_cases hbig:2000<sz
     . have HR:Hid (∀n,Did S 104 w g (Sp.jH s sz i s.l[i]) (.returned (.int .i64 (4:Nat))) (w.drewN n)):=fun n=>Did.none_ (c:=4) (r:=Sp.jH s sz i s.l[i]) h (lN w n) (by unfold Sp.jH;rw[if_neg n0,if_neg hneg,if_pos (Or.inl hbig)]);have tb:decide (sz > 2000)=true:=by rw[bR];exact hbig
       clear h hp hf h0 h2 h4 hB n0;generalize s.l[i]=u at *;go_enter func218,ntmps218;go_wp2;go_quiet (fail)
       go_wp2;go_ret;exact HR.o _
     . have tb:decide (sz > 2000)=false:=by rw[bQ];omega
       by_cases hlow:sz<s.l[i].bytes.length
       . have HR:Hid (∀n,Did S 104 w g (Sp.jH s sz i s.l[i]) (.returned (.int .i64 (4:Nat))) (w.drewN n)):=fun n=>Did.none_ (c:=4) (r:=Sp.jH s sz i s.l[i]) h (lN w n) (by unfold Sp.jH;rw[if_neg n0,if_neg hneg,if_pos (Or.inr hlow)]);have tl:decide (sz<(s.l[i].bytes.length:Int))=true:=by rw[bR];exact hlow
         clear h hp hf h0 h2 h4 hB n0;generalize s.l[i]=u at *;go_enter func218,ntmps218;go_wp2;go_quiet (fail)
         go_wp2;go_ret;exact HR.o _
       . have hb:=lN w;have HR:Hid (∀n,Did S 104 w g (Sp.jH s sz i s.l[i]) (.returned (.int .i64 0)) ((w.drewN n).setCell ⟨gu,i*5+1,none⟩ (.int .i64 sz))):=fun n =>
          Did.from_ (hb n) (Did.put (u:={ s.l[i] with size:=sz }) (h.stay (hb n)) (hp.stay (hb n)) hi (by decide) (fun q=>rfl) rfl (by unfold Sp.jH;rw[if_neg n0,if_neg hneg,if_neg (by omega)]))
         have tl:decide (sz<(s.l[i].bytes.length:Int))=false:=by rw[bQ];omega
         have hf1:w.frozen? ⟨gu,i*5+1,none⟩=false:=hf _;clear h hp hf h0 h2 h4 hB n0 hb;generalize s.l[i]=u at *;go_enter func218,ntmps218;go_wp2;go_quiet (fail)
         go_wp2;go_ret;exact HR.o _
 . have HR:Hid (Did S 104 w g (Sp.jH s sz i s.l[i]) (.returned (.int .i64 (18:Nat))) w):=Did.none_ h (fJ _ _) (by unfold Sp.jH;rw[if_pos (by omega)]);clear h hp hf h0 h2 h3 h4 hB;generalize s.l[i]=u at *;go_enter func218,ntmps218;go_wp2;go_ret;exact HR.o
theorem OG (s:Sp.St)(S:Nat->Prop)(g:Nat)(id:Int)(w:World)(h:iV w S g s)(hN:s.l.length<=1000)(b1:Nat)(F:Nat->Sp.Up->Sp.St×Nat)
 (hF:∀w1 i gu (hi:i<s.l.length),aj w w1->iV w1 S g s->oq w1 g gu s.l.length->Calls prog 218 #[.pointer (some ⟨gu,i*5,none⟩),.pointer (some ⟨b1,0,none⟩)] w1 (Did S 104 w1 g (F i s.l[i]))) :
 Calls prog 214 #[.pointer (some ⟨g,0,none⟩),.int .i64 id,.func (.func 218) #[] #[.pointer (some ⟨b1,0,none⟩)]] w (Did S 104 w g (Sp.nZ s id F)):=by
 have HI:=H9 (tZ s S g id w h hN);have HA:=H9 h;have HF:=H9 hF;clear h hF;cases hp:Sp.place s.l id with
 | none =>
   rw[Sp.zq hp] at HI;have HR:Hid (∀W,aj w W->Did S 104 w g (Sp.nZ s id F) (.returned (.int .i64 (10:Nat))) W):=fun W hb=>Did.none_ HA.o hb (Sp.Au hp);clear hp;go_enter func214,ntmps214;go_wp2_with fail
   refine HI.o.mono ?_;rintro e w1 ⟨rfl,hb⟩;have HB:=H9 hb;clear hb;go_wp2;go_ret;exact HR.o _ HB.o
 | some i =>
   rw[Sp.zu hp] at HI;have hi:=Sp.tV hp;have hat:Sp.nZ s id F=F i (s.l[i]'hi):=Sp.Av hp;clear hp;have HT:=H9 hat;clear hat;go_enter func214,ntmps214;go_wp2_with fail
   refine HI.o.mono ?_;rintro e w1 ⟨rfl,hb⟩;have h1:=HA.o.stay hb;obtain⟨gu,hgu⟩:=oq.of h1 hi;have HC:=H9 (HF.o w1 i gu hi hb h1 hgu);have HB:=H9 hb;obtain⟨cap,hcap,hc⟩:=hgu;have hi':(i:Int)<s.l.length:=by omega
   have HD:Hid (∀e w2,Did S 104 w1 g (F i s.l[i]) e w2->Did S 104 w g (Sp.nZ s id F) e w2∧∃c:Nat,e=.returned (.int .i64 (c:Int))):=fun e w2 hd=>by
    have hsz:=hb.size;refine⟨⟨by rw[HT.o];exact hd.ret,?_,(Turns.of_below hb).trans hd.turns (fun _ e _=>e)⟩,_,hd.ret⟩;rw[HT.o];refine hd.at_.mono (fun k _ e=>?_);rcases e with e | e
    . exact Or.inl e
    . exact Or.inr (by omega)
   clear hb h1 HT HA HF HI;generalize F i s.l[i]=r at *;generalize Sp.nZ s id F=r2 at *;generalize s.l.length=n at *;go_wp2_with fail
   refine HC.o.mono ?_;intro e w2 hd;obtain⟨hd2,c,rfl⟩:=HD.o e w2 hd;have HD2:=H9 hd2;clear hd hd2 HD;go_wp2;go_ret;exact HD2.o
theorem OH (s:Sp.St)(S:Nat->Prop)(g:Nat)(id:Int)(w:World)(h:iV w S g s)(hN:s.l.length<=1000)(b1 b2 b3:Nat)(F:Nat->Sp.Up->Sp.St×Nat)
 (hF:∀w1 i gu (hi:i<s.l.length),aj w w1->iV w1 S g s->oq w1 g gu s.l.length->Calls prog 215 #[.pointer (some ⟨gu,i*5,none⟩),.pointer (some ⟨b1,0,none⟩),.pointer (some ⟨b2,0,none⟩),.pointer (some ⟨b3,0,none⟩)] w1 (Did S 104 w1 g (F i s.l[i]))) :
 Calls prog 214 #[.pointer (some ⟨g,0,none⟩),.int .i64 id,.func (.func 215) #[] #[.pointer (some ⟨b1,0,none⟩),.pointer (some ⟨b2,0,none⟩),.pointer (some ⟨b3,0,none⟩)]] w (Did S 104 w g (Sp.nZ s id F)):=by
 have HI:=H9 (tZ s S g id w h hN);have HA:=H9 h;have HF:=H9 hF;clear h hF;cases hp:Sp.place s.l id with
 | none =>
   rw[Sp.zq hp] at HI;have HR:Hid (∀W,aj w W->Did S 104 w g (Sp.nZ s id F) (.returned (.int .i64 (10:Nat))) W):=fun W hb=>Did.none_ HA.o hb (Sp.Au hp);clear hp;go_enter func214,ntmps214;go_wp2_with fail
   refine HI.o.mono ?_;rintro e w1 ⟨rfl,hb⟩;have HB:=H9 hb;clear hb;go_wp2;go_ret;exact HR.o _ HB.o
 | some i =>
   rw[Sp.zu hp] at HI;have hi:=Sp.tV hp;have hat:Sp.nZ s id F=F i (s.l[i]'hi):=Sp.Av hp;clear hp;have HT:=H9 hat;clear hat;go_enter func214,ntmps214;go_wp2_with fail
   refine HI.o.mono ?_;rintro e w1 ⟨rfl,hb⟩;have h1:=HA.o.stay hb;obtain⟨gu,hgu⟩:=oq.of h1 hi;have HC:=H9 (HF.o w1 i gu hi hb h1 hgu);have HB:=H9 hb;obtain⟨cap,hcap,hc⟩:=hgu;have hi':(i:Int)<s.l.length:=by omega
   have HD:Hid (∀e w2,Did S 104 w1 g (F i s.l[i]) e w2->Did S 104 w g (Sp.nZ s id F) e w2∧∃c:Nat,e=.returned (.int .i64 (c:Int))):=fun e w2 hd=>by
    have hsz:=hb.size;refine⟨⟨by rw[HT.o];exact hd.ret,?_,(Turns.of_below hb).trans hd.turns (fun _ e _=>e)⟩,_,hd.ret⟩;rw[HT.o];refine hd.at_.mono (fun k _ e=>?_);rcases e with e | e
    . exact Or.inl e
    . exact Or.inr (by omega)
   clear hb h1 HT HA HF HI;generalize F i s.l[i]=r at *;generalize Sp.nZ s id F=r2 at *;generalize s.l.length=n at *;go_wp2_with fail
   refine HC.o.mono ?_;intro e w2 hd;obtain⟨hd2,c,rfl⟩:=HD.o e w2 hd;have HD2:=H9 hd2;clear hd hd2 HD;go_wp2;go_ret;exact HD2.o
theorem EL (l:av)(bo:ak)(gK n:Nat)(w:World)(hl:iH w bo gK l)(hn:l.length=n)(hN:n<=140737488355328):
 Calls prog 114 #[.slice bo n gK] w fun e w'=>∃ao cap,e=.returned (.slice ao n cap)∧gZ w' (fun k=>w.heap.size<=k) 5 ao cap l∧aj w w':=by
 have qT:∀(w:World) (a:ak) (n c n' c':Nat),(binOp .eql 31 (.slice a n c) (.slice none n' c')).run prog w=.ok (.bool a.isNone) w:=fun w a n c n' c'=>Lib.run_eql_slice_nil w _ _ a n c n' c' underlying31;cases bo with
 | none =>
   obtain⟨rfl,rfl⟩:=hl.rz;subst hn;go_enter func114,ntmps114;go_wp2;go_ret;exact⟨none,0,rfl,gZ.nil _ _ _,fJ _ _⟩
 | some a =>
   have HL:=H9 hl;have HN:=H9 hn
   obtain⟨i0,hi0,hz0,hz1,hz2⟩:=info_parts jO;have Hi:=H9 hi0;have kK:=H9 hz0;have kH:=H9 hz1;have kL:=H9 hz2
   clear hi0 hz0 hz1 hz2 hl hn;go_enter func114,ntmps114;go_wp2_with (at_builtin;refine nD (S:=fun _=>False) rfl (.tmp 5) (.tmp 6) 31 rfl 5 i0 underlying31 Hi.o kK.o kH.o kL.o (l:=[]) rfl rfl (Or.inr ⟨rfl,rfl⟩) rfl (HL.o.alloc _) HN.o (by omega) ?_;intro jQ gX w3 hO3 pF;have oD:=H9 hO3;have HT3:=H9 pF;clear hO3 pF)
   go_ret;refine⟨jQ,gX,by simp,?_,?_⟩
   . have:=oD.o;rw[dz] at this;exact this.mono (fun k _ e=>by
      rcases e with e | e
      . simp[jN] at e
      . simp at e;omega)
   . exact((fJ _ _).alloc (aM _) _).trans (HT3.o.below (fun k e=>by simp[jN] at e) (by simp))
theorem Xa (w:World):
 Calls prog 22 #[] w fun e w'=>e=.returned (.pointer (some ⟨w.heap.size,0,none⟩))∧iV w' (fun k=>w.heap.size<=k) w.heap.size Sp.new∧aj w w':=by
 have jq:=(fJ _ w).alloc (aM _) (.cells #[.slice none 0 0,.int .i64 0] 104);have HX:Hid (iV (w.alloc (.cells #[.slice none 0 0,.int .i64 0] 104)) (fun k=>w.heap.size<=k) w.heap.size Sp.new):=⟨none,0,fI w _,aM _,qF.nil _ _ _ _⟩;have HB:=H9 jq;clear jq;go_enter func22,ntmps22;go_wp2;go_ret;exact⟨rfl,HX.o,HB.o⟩
end Go.Proofs.YtjmndjmhjleabaaGreatDoor
namespace Go.Proofs.YtjmndjmhjleabaaGreatDoor
def Rq.Ev.d:Rq.Ev->iN
 | .head h=>⟨1,⟨h.method.toArray⟩,⟨h.target.toArray⟩,(h.minor:Int),Rq.ny h.fields,h.length,[],⟨#[]⟩,⟨#[]⟩,⟨#[]⟩,[],0⟩
 | .body b=>⟨2,⟨#[]⟩,⟨#[]⟩,0,[],0,b,⟨#[]⟩,⟨#[]⟩,⟨#[]⟩,[],0⟩
 | .fin=>⟨3,⟨#[]⟩,⟨#[]⟩,0,[],0,[],⟨#[]⟩,⟨#[]⟩,⟨#[]⟩,[],0⟩
 | .fail c=>⟨4,⟨#[]⟩,⟨#[]⟩,0,[],0,[],⟨#[]⟩,⟨#[]⟩,⟨#[]⟩,[],(c:Int)⟩
theorem Bn (e:Rq.Ev):e.d.kind=2<->e.uI=true:=by cases e <;> simp[Rq.Ev.d,Rq.Ev.uI]
theorem Z5 (l:List Rq.Ev):tailD (l.map Rq.Ev.d)=Rq.qj l:=by
 rcases bD l with rfl | ⟨q,x,rfl⟩
 . rfl
 . rw[bF,bG,List.map_cons,List.map_nil,rM,Rq.BG];by_cases h:x.uI=true
   . rw[h];exact aI ((Bn x).2 h)
   . rw[Bool.not_eq_true] at h;rw[h];exact aJ (fun k=>by rw[(Bn x).1 k] at h;cases h)
theorem acO {l:List Rq.Ev}(hj:Rq.Joined l)(e:Rq.Ev):vM (l.map Rq.Ev.d) e.d=(Rq.join (l++[e])).map Rq.Ev.d:=by
 by_cases hp:e.uI=true∧Rq.qj l=true
 . obtain⟨b,rfl⟩:∃b,e=.body b:=by
    cases e with
    | body b=>exact⟨b,rfl⟩
    | head _=>cases hp.1
    | fin=>cases hp.1
    | fail _=>cases hp.1
   obtain⟨q,a,rfl⟩:=Rq.zG l hp.2;rw[Rq.KJ hj,bG,List.map_cons,List.map_nil,nN _ _ _ rfl rfl,bG];rfl
 . have ht:e.uI=true->Rq.qj l=false:=fun hb=>by
    cases ht:Rq.qj l
    . rfl
    . exact absurd ⟨hb,ht⟩ hp
   rw[Rq.Nw hj ht,mJ _ _ (fun k=>by rw[Z5];exact ht ((Bn e).1 k)),bG];rfl
theorem Fa:∀l:List Rq.Ev,lJ (l.map Rq.Ev.d)=Rq.jE l
 | []=>rfl
 | .body a::r=>by show a.length+lJ (r.map Rq.Ev.d)=a.length+Rq.jE r;rw[Fa r]
 | .head _::r=>by show 0+lJ (r.map Rq.Ev.d)=Rq.jE r;rw[Fa r];omega
 | .fin::r=>by show 0+lJ (r.map Rq.Ev.d)=Rq.jE r;rw[Fa r];omega
 | .fail _::r=>by show 0+lJ (r.map Rq.Ev.d)=Rq.jE r;rw[Fa r];omega
end Go.Proofs.YtjmndjmhjleabaaGreatDoor