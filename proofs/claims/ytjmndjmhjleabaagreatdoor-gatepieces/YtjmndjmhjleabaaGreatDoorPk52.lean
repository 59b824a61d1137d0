/- Small texts, one behind the other: GaQ, GaR, GaS. -/
import Derived.Test.YtjmndjmhjleabaaGreatDoorPk51
import Derived.Lib.SlBytesConst
import Derived.Test.YtjmndjmhjleabaaGreatDoorPk12
import Derived.Test.YtjmndjmhjleabaaGreatDoorPk25
import Derived.Test.YtjmndjmhjleabaaGreatDoorPk10
set_option maxHeartbeats 8000000
set_option maxRecDepth 100000
open Go.Proofs.Tryz
namespace Go.Proofs.YtjmndjmhjleabaaGreatDoor
open Go.RowKit
def SY:List UInt8:=[71,69,84,32,47,32,72,84,84,80,47,49,46,49,13,10,72,111,115,116,58,32,97,13,10,13,10]
def gbT:List UInt8:=[72,84,84,80,47,49,46,49,32,52,48,52,32,78,111,116,32,70,111,117,110,100,13,10,67,111,110,116,101,110,116,45,76,101,110,103,116,104,58,32,48,13,10,13,10]
theorem S9:Rq.outs Rq.start SY=[.head ⟨[71,69,84],[47],1,[([72,111,115,116],[97])],0⟩,.fin]:=by rfl
theorem Ta:Gt.textOf (404,[],[])=gbT:=by decide +kernel
theorem Tc:Gt.feed Tu.aO Sr.new Gt.mV SY=(Sr.new,⟨Rq.fold Rq.start SY,Rq.hd0,[]⟩,gbT):=by
 unfold Gt.feed Gt.xL;rw[show Gt.mV.rq=Rq.start from rfl,S9];rw[<-Ta];rfl
theorem Te:Rq.busy (Rq.fold Rq.start SY)=false:=by rfl
theorem V7 (W:World):aU (W.alloc (.cells #[.int .u8 71,.int .u8 69,.int .u8 84,.int .u8 32,.int .u8 47,.int .u8 32,.int .u8 72,.int .u8 84,.int .u8 84,.int .u8 80,.int .u8 47,.int .u8 49,.int .u8 46,.int .u8 49,.int .u8 13,.int .u8 10,.int .u8 72,.int .u8 111,.int .u8 115,.int .u8 116,.int .u8 58,.int .u8 32,.int .u8 97,.int .u8 13,.int .u8 10,.int .u8 13,.int .u8 10] 5 (27,28))) (some ⟨W.heap.size,0,none⟩) 27 SY:=by
 have h:=cu.made W #[.int .u8 71,.int .u8 69,.int .u8 84,.int .u8 32,.int .u8 47,.int .u8 32,.int .u8 72,.int .u8 84,.int .u8 84,.int .u8 80,.int .u8 47,.int .u8 49,.int .u8 46,.int .u8 49,.int .u8 13,.int .u8 10,.int .u8 72,.int .u8 111,.int .u8 115,.int .u8 116,.int .u8 58,.int .u8 32,.int .u8 97,.int .u8 13,.int .u8 10,.int .u8 13,.int .u8 10] 27 5 (27,28);refine⟨Nat.le_refl _,(fun e=>by cases e),fun j hj=>⟨_,rfl,?_⟩⟩;refine h.cell ?_;exact fJ SY j hj
theorem Ac (w:World)(hP:gU w):
 Calls prog 6 #[] w fun e w'=>e=.returned (.bool true)∧Below w.heap.size w w':=by
 have HP:=H9 hP;have kc:=fun(w:World) (C:Array Value) (n c:Nat)=>Lib.run_convert_bytes_const (P:=prog) w 31 5 C n c underlying31 underlying5;clear hP;go_enter func6,ntmps6;go_wp2_with fail
 refine(uE w).mono ?_;rintro e w1 ⟨gs,rfl,hS1,hb1⟩;have HN:=H9 (zC hS1);have HB1:=H9 hb1;clear hS1 hb1;go_wp2_with fail
 refine HN.o.mono ?_;rintro e w2 ⟨rfl,hG2,dx⟩;have hz1:=HB1.o.size;have hb2:Below w.heap.size w w2:=HB1.o.trans (dx.below (fun k e=>e) hz1);have QH:cZ w2 (fun k=>w.heap.size<=k∧k<w2.heap.size) w1.heap.size gs Sr.new (fun _=>Gt.mV):=hG2.mono (fun k hk e=>⟨by
  rcases e with e | e
  . exact e
  . omega,hk⟩)
 have bQ:=(Below.refl _ w2).alloc (Nat.le_refl _) (.cells #[.int .u8 71,.int .u8 69,.int .u8 84,.int .u8 32,.int .u8 47,.int .u8 32,.int .u8 72,.int .u8 84,.int .u8 84,.int .u8 80,.int .u8 47,.int .u8 49,.int .u8 46,.int .u8 49,.int .u8 13,.int .u8 10,.int .u8 72,.int .u8 111,.int .u8 115,.int .u8 116,.int .u8 58,.int .u8 32,.int .u8 97,.int .u8 13,.int .u8 10,.int .u8 13,.int .u8 10] 5 (27,28));have Zo:Hid (Calls prog 13 #[.pointer (some ⟨w1.heap.size,0,none⟩),.int .i64 0,.slice (some ⟨w2.heap.size,0,none⟩) 27 27] (w2.alloc (.cells #[.int .u8 71,.int .u8 69,.int .u8 84,.int .u8 32,.int .u8 47,.int .u8 32,.int .u8 72,.int .u8 84,.int .u8 84,.int .u8 80,.int .u8 47,.int .u8 49,.int .u8 46,.int .u8 49,.int .u8 13,.int .u8 10,.int .u8 72,.int .u8 111,.int .u8 115,.int .u8 116,.int .u8 58,.int .u8 32,.int .u8 97,.int .u8 13,.int .u8 10,.int .u8 13,.int .u8 10] 5 (27,28))) fun e w'=>J7 (fun k=>w.heap.size<=k∧k<w2.heap.size) (w2.alloc (.cells #[.int .u8 71,.int .u8 69,.int .u8 84,.int .u8 32,.int .u8 47,.int .u8 32,.int .u8 72,.int .u8 84,.int .u8 84,.int .u8 80,.int .u8 47,.int .u8 49,.int .u8 46,.int .u8 49,.int .u8 13,.int .u8 10,.int .u8 72,.int .u8 111,.int .u8 115,.int .u8 116,.int .u8 58,.int .u8 32,.int .u8 97,.int .u8 13,.int .u8 10,.int .u8 13,.int .u8 10] 5 (27,28))) w1.heap.size gs (fun _=>Gt.mV) 0 (Sr.new,⟨Rq.fold Rq.start SY,Rq.hd0,[]⟩,gbT) 0 e w'):=by
  have:=uN (w:=w2.alloc (.cells #[.int .u8 71,.int .u8 69,.int .u8 84,.int .u8 32,.int .u8 47,.int .u8 32,.int .u8 72,.int .u8 84,.int .u8 84,.int .u8 80,.int .u8 47,.int .u8 49,.int .u8 46,.int .u8 49,.int .u8 13,.int .u8 10,.int .u8 72,.int .u8 111,.int .u8 115,.int .u8 116,.int .u8 58,.int .u8 32,.int .u8 97,.int .u8 13,.int .u8 10,.int .u8 13,.int .u8 10] 5 (27,28))) HP.o (then_ hb2 bQ) (fun i e=>e.1) (QH.stay bQ) Sr.Ok.new 0 (by decide) Gt.rZ.new SY (V7 w2) (fun _ a e=>by injection e with e;subst e;exact fun x=>absurd x.2 (Nat.lt_irrefl _)) rfl (by decide);rw[Tc] at this;exact this
 have HB3:=H9 (then_ hb2 bQ);have hz2:w.heap.size<=w2.heap.size:=hb2.size;have HZ2:=H9 hz2;clear hG2 dx hb2 QH bQ HN hz1 hz2;go_wp2_with fail
 refine Zo.o.mono ?_;rintro e w3 ⟨⟨ao,cap,n,rfl,hn,hI⟩,hG3,jw⟩;have hn45:n=45:=hn;subst hn45;obtain⟨bb,oo,rfl,_⟩:=hI.lit (by decide);have hcp:=hI.1;have aey:(45:Nat)<=cap:=hcp;have hb3:Below w.heap.size w w3:=HB3.o.trans (jw.below (fun k e=>e.1) HB3.o.size);have hcut:=hI.cut (aD:=some ⟨bb,oo+9,none⟩) 9 12 (by decide) (by decide) (fun _=>rfl);have hcv:=hcut.str (P:=prog) 31 9 5 underlying31 underlying5 underlying9;replace hcv:(convert 31 9 (.slice (some ⟨bb,oo+9,none⟩) 3 (cap-9))).run prog w3=.ok (.string ⟨#[52,48,52]⟩) w3:=hcv;have HRa:=H9 (fun W=>FI (g:=w1.heap.size) 4 (Or.inr (by decide)) none 0 0 W);have HBu:Hid (Calls prog 20 #[.pointer (some ⟨w1.heap.size,0,none⟩),.int .i64 0] w3 fun e w'=>e=.returned (.bool false)∧w'=w3):=by
  have:=uO hG3 0 (by decide);rw[aY,show(Rq.busy (Gt.Cn.rq ⟨Rq.fold Rq.start SY,Rq.hd0,[]⟩))=false from Te] at this;exact this
 have TU:Hid (Calls prog 11 #[.pointer (some ⟨w1.heap.size,0,none⟩),.int .i64 0] w3 fun e w'=>e=.returned (.int .i64 0)∧Below w.heap.size w w'):=by
  refine(I6 hG3 0 (by decide) (by rw[aY]) (by rw[aY];decide)).mono (fun e w' ⟨h1,h2⟩=>⟨h1,hb3.trans (h2.below (fun k e=>?_) hb3.size)⟩);rcases e with e | e
  . exact e.1
  . exact Nat.le_trans HB3.o.size e
 have acV:(12:Int)<=(cap:Int):=by omega
 clear hI hG3 jw hb3 hcut hcp hn;go_wp2_with fail
 refine(HRa.o _).mono ?_;rintro e w4 ⟨rfl,hw⟩;rw[hw];clear hw;go_wp2_with fail
 refine HBu.o.mono ?_;rintro e w4 ⟨rfl,hw⟩;rw[hw];clear hw;go_wp2_with fail
 refine TU.o.mono ?_;rintro e w5 ⟨rfl,hb5⟩;have kU:=H9 hb5;clear hb5;go_wp2;go_ret;exact⟨rfl,kU.o⟩
section
variable {w6 wr w':World} {P1 P2:Nat->Prop} {g gs:Nat} {s:Sr.Sh} {c:Nat->Gt.Cn} {ao:Option Addr} {cap:Nat} {out:List UInt8}
structure wD (P1:Nat->Prop)(w6:World)(g gs:Nat)(s:Sr.Sh)(c:Nat->Gt.Cn)(ao:Option Addr)(cap:Nat)(out:List UInt8)(wr:World):Prop where
 two:∃A L,cZ wr A g gs s c∧aF wr L 5 ao cap out∧(∀k,A k->¬L k)∧(∀k,A k->P1 k∨w6.heap.size<=k)∧∀k,L k->w6.heap.size<=k
 turns:Turns P1 w6 wr
theorem wD.start (h:cZ w6 P1 g gs s c):wD P1 w6 g gs s c none 0 [] w6:=⟨⟨P1,fun _=>False,h,aF.nil _ _ _,fun _ _ e=>e,fun _ e=>Or.inl e,fun _ e=>e.elim⟩,Turns.refl _ _⟩
theorem wD.feed {w0:World}(h:wD P1 w6 g gs s c ao cap out wr)(hP:gU w0)(hW:Below w0.heap.size w0 w6)(hF:∀i,P1 i->w0.heap.size<=i)(ok:Sr.Ok s)(k:Nat)(hk:k<4)(hc:Gt.rZ (c k))(l:List UInt8){bo:Option Addr}{aj n:Nat}(hB:aU w6 bo aj l)(kH:l≠[]->∀a,bo=some a->¬P1 a.block)(hn:l.length=n)(hl:(c k).body.length+n<=20000):
 Calls prog 13 #[.pointer (some ⟨g,0,none⟩),.int .i64 (k:Int),.slice bo n aj] wr fun e w'=>∃(vW:Option Addr) (cap5 n5:Nat) (L:Nat->Prop),e=.returned (.tuple #[.slice vW n5 cap5,.int .i64 (if (c k).rq.ph=4 then 18 else 0)])∧n5=(Gt.feed Tu.aO s (c k) l).2.2.length∧aU w' vW cap5 (Gt.feed Tu.aO s (c k) l).2.2∧aF w' L 5 ao cap out∧wD P1 w6 g gs (Gt.feed Tu.aO s (c k) l).1 (upd c k (Gt.feed Tu.aO s (c k) l).2.1) ao cap out w' ∧
  ∀FX cap6 w'',aF w'' (fun i=>cK out ao=some i∨w'.heap.size<=i) 5 FX cap6 (out++(Gt.feed Tu.aO s (c k) l).2.2)->Turns (fun i=>cK out ao=some i) w' w''->wD P1 w6 g gs (Gt.feed Tu.aO s (c k) l).1 (upd c k (Gt.feed Tu.aO s (c k) l).2.1) FX cap6 (out++(Gt.feed Tu.aO s (c k) l).2.2) w'':=by
 obtain⟨⟨A,L,h1,h2,h3,h4,h5⟩,hT⟩:=h;have hz:=hT.size;have hlt:l≠[]->∀a,bo=some a->a.block<w6.heap.size:=fun hne a e=>by
  subst e;have hp:0<l.length:=List.length_pos_iff.2 hne;have:=World.block_lt_of_cell? w6 _ (hB.cell 0 hp);rwa[add_block] at this
 have hBr:aU wr bo aj l:=by
  by_cases hne:l=[]
  . subst hne;exact aU.empty wr hB
  . exact hB.turns hT (fun a e=>kH hne a e)
 refine(uN hP (hW.trans (hT.below hF hW.size)) (S:=fun k=>A k∧k<wr.heap.size) (fun i e=>?_) (h1.mono (fun k hk e=>⟨e,hk⟩)) ok k hk hc l hBr (fun hne a e e2=>?_) hn hl).mono ?_
 . rcases h4 i e.1 with e | e
   . exact hF i e
   . exact Nat.le_trans hW.size e
 . rcases h4 _ e2.1 with e3 | e3
   . exact kH hne a e e3
   . have:=hlt hne a e;omega
 . rintro e w5 ⟨⟨vW,cap5,n5,he,Nn,wN⟩,Ez,nD⟩;have hz5:=nD.size;have hL5:aF w5 (fun k=>L k∧k<wr.heap.size) 5 ao cap out:=(h2.mono (fun k hk e=>⟨e,hk⟩)).turns nD (fun k e e2=>h3 k e2.1 e.1);have kD:Turns P1 w6 w5:=hT.trans nD (fun k e hk=>by
    rcases h4 k e.1 with e | e
    . exact e
    . omega)
   have hA:∀k,av (fun k=>A k∧k<wr.heap.size) wr k->P1 k∨w6.heap.size<=k:=fun k e=>by
    rcases e with e | e
    . exact h4 k e.1
    . exact Or.inr (by omega)
   have hd:∀k,av (fun k=>A k∧k<wr.heap.size) wr k->¬(L k∧k<wr.heap.size):=fun k e e2=>by
    rcases e with e | e
    . exact h3 k e.1 e2.1
    . have:=e2.2;omega
   have hin:∀i,cK out ao=some i->L i∧i<wr.heap.size:=fun i e=>by
    unfold cK at e;split at e
    . cases e
    . rename_i hne;rcases hL5 with ⟨_,_,q⟩ | ⟨q,_⟩
      . cases kH:ao with
        | none=>rw[kH] at e;cases e
        | some a=>rw[kH] at e;injection e with e;rw[<-e];exact q a kH
      . exact absurd q hne
   refine⟨vW,cap5,n5,_,he,Nn,wN,hL5,⟨⟨_,_,Ez,hL5,hd,hA,fun k e=>h5 k e.1⟩,kD⟩,fun FX cap6 w7 Uf vH=>⟨⟨fun k=>av (fun k=>A k∧k<wr.heap.size) wr k∧k<w5.heap.size,_,(Ez.mono (fun k hk e=>⟨e,hk⟩)).turns vH (fun k e e2=>hd k e.1 (hin k e2)),Uf,fun k e e2=>?_,fun k e=>hA k e.1,fun k e=>?_⟩,kD.trans vH (fun k e hk=>?_)⟩⟩
   . rcases e2 with e2 | e2
     . exact hd k e.1 (hin k e2)
     . have:=e.2;omega
   . rcases e with e | e
     . exact h5 k (hin k e).1
     . omega
   . have:=h5 k (hin k e).1;omega
theorem wD.aside (h:wD P1 w6 g gs s c ao cap out wr){T:Nat->Prop}(ht:Turns T wr w')(hT:∀k,T k->k<w6.heap.size∧¬P1 k):∃A,cZ w' A g gs s c∧aU w' ao cap out:=by
 obtain⟨⟨A,L,h1,h2,h3,h4,h5⟩,_⟩:=h;refine⟨A,h1.turns ht (fun k e e2=>?_),(h2.turns ht (fun k e e2=>?_)).qc⟩
 . rcases h4 k e with e3 | e3
   . exact(hT k e2).2 e3
   . have:=(hT k e2).1;omega
 . have:=h5 k e;have:=(hT k e2).1;omega
end
theorem qE.cell_ {w:World}{bo:Option Addr}{l:List UInt8}{b o cap:Nat}{ps:List Pc}{w4 wr:World}{P:Nat->Prop}(h:qE w bo l l.length (some ⟨b,o,none⟩) cap ps w4)(hT:Turns P w4 wr)(hP:∀k,P k->k<w.heap.size)(i:Nat)(hi:i<ps.length):wr.cell? ⟨b,o+i,none⟩=some (.slice ps[i].ao ps[i].l.length ps[i].cap):=by
 have hv:=h.own.lQ.turns hT (fun a e=>by
  have hb:=(h.own.block a e).1;intro k;have:=hP _ k;omega)
 have hc:=hv.cell (j:=i) (u:=ps[i].v) (by unfold Tf;rw[List.getElem?_map,List.getElem?_eq_getElem hi];rfl);rw[Addr.add_lit] at hc;exact hc
/-! ### plain: pieces, one behind the other -/
theorem Gt.Ja (s:Sr.Sh)(c:Gt.Cn)(ps:List (List UInt8))(i:Nat)(hi:i<ps.length):Gt.feeds Tu.aO s c (ps.take (i+1))=((Gt.feed Tu.aO (Gt.feeds Tu.aO s c (ps.take i)).1 (Gt.feeds Tu.aO s c (ps.take i)).2.1 ps[i]).1,(Gt.feed Tu.aO (Gt.feeds Tu.aO s c (ps.take i)).1 (Gt.feeds Tu.aO s c (ps.take i)).2.1 ps[i]).2.1,(Gt.feeds Tu.aO s c (ps.take i)).2.2++(Gt.feed Tu.aO (Gt.feeds Tu.aO s c (ps.take i)).1 (Gt.feeds Tu.aO s c (ps.take i)).2.1 ps[i]).2.2):=by
 rw[Gt.kM,Gt.kM,List.take_succ_eq_append_getElem hi,List.flatten_append,Gt.uY];simp
theorem Gt.QJ {s:Sr.Sh}(ok:Sr.Ok s){c:Gt.Cn}(hc:Gt.rZ c)(ps:List (List UInt8)):Sr.Ok (Gt.feeds Tu.aO s c ps).1∧Gt.rZ (Gt.feeds Tu.aO s c ps).2.1∧(Gt.feeds Tu.aO s c ps).2.1.body.length<=c.body.length+ps.flatten.length∧(Gt.feeds Tu.aO s c ps).2.2.length<=6000*(2*ps.flatten.length):=by
 rw[Gt.kM];refine⟨Gt.Rx Tu.aO Ur ok c _,Gt.RN Tu.aO hc s _,Gt.KU Tu.aO s c _,?_⟩;have h1:=Gt.oC (Rq.outs c.rq ps.flatten) (g:=Gt.at_ s c) ok;have h2:=(Rq.iO ps.flatten c.rq).1;have h3:(Gt.at_ s c).out.length=0:=rfl;show(Gt.evs Tu.aO (Gt.at_ s c) (Rq.outs c.rq ps.flatten)).out.length<=_;omega
theorem Bv (ps:List (List UInt8))(i:Nat):(ps.take i).flatten.length<=ps.flatten.length:=by
 conv=>rhs;rw[<-List.take_append_drop i ps,List.flatten_append,List.length_append]
 omega
theorem Ti (ps:List (List UInt8))(i:Nat)(hi:i<ps.length):(ps.take i).flatten.length+ps[i].length<=ps.flatten.length:=by
 have:=Bv ps (i+1);rw[List.take_succ_eq_append_getElem hi,List.flatten_append,List.length_append] at this;simpa using this
theorem zD (w:World)(hP:gU w)(l:List UInt8)(bo co:Option Addr)(aj n MU nc:Nat)(cs:List Int)(kk:Int)(hB:aU w bo aj l)(hn:l.length=n)(hC:cu w co MU nc (cs.map fun c=>Value.int .i64 c))(hnc:cs.length=nc):
 Calls prog 4 #[.slice bo n aj,.slice co nc MU,.int .i64 kk] w fun e w'=>e=.returned (.bool true)∧Below w.heap.size w w':=by
 have HB:=H9 hB;have HC:=H9 hC;have YF:=H9 hnc;have HN:=H9 hn;have HP:=H9 hP
 have HBg:=H9 (Ac w hP);clear hB hC hP;go_enter func4,ntmps4;go_wp2_with fail
 refine HBg.o.mono ?_;rintro e w1 ⟨rfl,h1⟩;have H1:=H9 h1;clear h1 hnc hn HBg;by_cases hbig:9000<n
 . have t:decide ((n:Int) > 9000)=true:=decide_eq_true (by omega);go_wp2;go_ret;exact⟨rfl,H1.o⟩
 . have t:decide ((n:Int) > 9000)=false:=decide_eq_false (by omega);by_cases aeB:60<nc
   . have t2:decide ((nc:Int) > 60)=true:=decide_eq_true (by omega);go_wp2;go_ret;exact⟨rfl,H1.o⟩
   . have t2:decide ((nc:Int) > 60)=false:=decide_eq_false (by omega);go_upto_region 5 with fail
     go_cut [2] (fun vk wd=>∃k:Nat,k<4∧vk=.int .i64 k∧wd=w1)
     case first =>
      go_wp2;go_meet;have h0:0<=IntKind.u64.wrap kk:=by rw[IntKind.wrap_u64];omega
      have h1:=Int.tmod_nonneg 4 h0;have h2:=Int.tmod_lt_of_pos (IntKind.u64.wrap kk) (b:=4) (by omega);exact⟨((IntKind.u64.wrap kk).tmod 4).toNat,by omega,by rw[tY (x:=(IntKind.u64.wrap kk).tmod 4) (by omega) (by omega)];congr 1;omega,rfl⟩
     case rest =>
      obtain⟨k,hk,rfl,hw⟩:=hcut;subst hw;clear t t2;go_wp2_with fail
      refine(uE wc).mono ?_;rintro e w2 ⟨gs1,rfl,hS1,hb2⟩;have Bc:=H9 hS1;have HB2:=H9 hb2
      clear hS1 hb2;go_wp2_with fail
      refine(uE w2).mono ?_;rintro e w3 ⟨gs2,rfl,hS2,hb3⟩;have z1:=H1.o.size;have z2:=HB2.o.size;have z3:=hb3.size
      have YG:=(Bc.o.mono (S':=fun i=>wc.heap.size<=i∧i<w2.heap.size) (fun i hi e=>⟨e,hi⟩)).stay hb3;have YH:=hS2.mono (S':=fun i=>w2.heap.size<=i∧i<w3.heap.size) (fun i hi e=>⟨e,hi⟩);have RX:=H9 (zC YG);have HS2:=H9 YH;have HB3:=H9 hb3
      clear YG YH hS2 hb3 Bc;go_wp2_with fail
      refine RX.o.mono ?_;rintro e w4 ⟨rfl,hG1,wP⟩;have z4:=wP.size;have Ut:=HS2.o.turns wP (fun i e e2=>by omega);have FQ:=H9 (zC Ut);have M6:=H9 wP;have QK:=hG1.mono (S':=fun i=>(wc.heap.size<=i∧i<w2.heap.size)∨(w3.heap.size<=i∧i<w4.heap.size)) (fun i hi e=>by
       rcases e with e | e
       . exact Or.inl e
       . exact Or.inr ⟨e,hi⟩)
      have Ph:=H9 QK;clear Ut hG1 QK wP RX HS2;go_wp2_with fail
      refine FQ.o.mono ?_;rintro e w5 ⟨rfl,hG2,nD⟩;have z5:=nD.size;have QK:=Ph.o.turns nD (fun i e e2=>by omega);have QH:=hG2.mono (S':=fun i=>(w2.heap.size<=i∧i<w3.heap.size)∨(w4.heap.size<=i∧i<w5.heap.size)) (fun i hi e=>by
       rcases e with e | e
       . exact Or.inl e
       . exact Or.inr ⟨e,hi⟩)
      have hb5:Below wc.heap.size wc w5:=(then_ HB2.o HB3.o).trans ((M6.o.below (B:=wc.heap.size) (fun i e=>e.1) (by omega)).trans (nD.below (B:=wc.heap.size) (fun i e=>by omega) (by omega)));have Tj:Below w.heap.size w w5:=H1.o.trans (hb5.mono z1);have Xp:=H9 (I8 w5 l bo co aj n MU nc cs (HB.o.stay Tj) HN.o (by omega) (HC.o.stay Tj) YF.o (by omega));have Ph:=H9 QK;have HG2:=H9 QH;have kU:=H9 Tj
      have HZ:Hid (w.heap.size<=wc.heap.size∧wc.heap.size<=w2.heap.size∧w2.heap.size<=w3.heap.size∧w3.heap.size<=w4.heap.size∧w4.heap.size<=w5.heap.size):=⟨z1,z2,z3,z4,z5⟩;clear QK QH hb5 Tj hG2 nD FQ M6 z1 z2 z3 z4 z5 HB2 HB3 H1;go_wp2_with fail
      refine Xp.o.mono ?_;rintro e w6 ⟨ps,ao,cap,rfl,QY,hpl⟩;have hp1:ps.length<=61:=by omega
      have hp0:0<ps.length:=by omega
      have YI:=QY.below;have HL0:=H9 (wD.start (Ph.o.stay YI));have YJ:=H9 (HG2.o.stay YI);have JV:=H9 QY;have qj:=H9 (then_ kU.o YI);have X6:Hid (w5.heap.size<=w6.heap.size):=YI.size;have TR:Hid ((ps.map Pc.l).flatten=l):=by unfold Hid;rw[QY.flat,List.take_length]
      obtain⟨rb,ro,rfl,_⟩:=QY.own.lQ.lit (by rw[I7];exact hp0);have hcap:=QY.own.lQ.1;have Zp:Hid (∀i,Sr.Ok (Gt.feeds Tu.aO Sr.new Gt.mV ((ps.map Pc.l).take i)).1∧Gt.rZ (Gt.feeds Tu.aO Sr.new Gt.mV ((ps.map Pc.l).take i)).2.1∧(Gt.feeds Tu.aO Sr.new Gt.mV ((ps.map Pc.l).take i)).2.1.body.length<=((ps.map Pc.l).take i).flatten.length∧(Gt.feeds Tu.aO Sr.new Gt.mV ((ps.map Pc.l).take i)).2.2.length<=6000*(2*((ps.map Pc.l).take i).flatten.length)):=fun i=>by
       have:=Gt.QJ Sr.Ok.new Gt.rZ.new ((ps.map Pc.l).take i);refine⟨this.1,this.2.1,?_,this.2.2.2⟩;have h2:=this.2.2.1;have h3:Gt.mV.body.length=0:=rfl;omega
      obtain⟨j0,hj0,hy0,hy1,hy2⟩:=info_parts dQ;have Hj:=H9 hj0;have M9:=H9 hy0;have Na:=H9 hy1;have Nb:=H9 hy2
      clear YI QY hpl Xp hj0 hy0 hy1 hy2 Ph HG2;have sZ:Hid (wD (fun i=>(wc.heap.size<=i∧i<w2.heap.size)∨(w3.heap.size<=i∧i<w4.heap.size)) w6 w3.heap.size gs1 (Gt.feeds Tu.aO Sr.new Gt.mV ((ps.map Pc.l).take 0)).1 (upd (fun _=>Gt.mV) k (Gt.feeds Tu.aO Sr.new Gt.mV ((ps.map Pc.l).take 0)).2.1) none 0 (Gt.feeds Tu.aO Sr.new Gt.mV ((ps.map Pc.l).take 0)).2.2 w6):=by
       have h0:=HL0.o;have e1:upd (fun _=>Gt.mV) k Gt.mV=fun _=>Gt.mV:=upd_same (fun _=>Gt.mV) k;unfold Hid;rw[List.take_zero];show wD _ _ _ _ Sr.new (upd (fun _=>Gt.mV) k Gt.mV) none 0 [] _;rw[e1];exact h0
      clear HL0;go_wp2;go_loopw [11,13] (fun va vi wr=>∃(i m:Nat) (aD:Option Addr) (cap':Nat),i<=ps.length∧vi=.int .i64 i∧va=.slice aD m cap'∧m=(Gt.feeds Tu.aO Sr.new Gt.mV ((ps.map Pc.l).take i)).2.2.length∧wD (fun i=>(wc.heap.size<=i∧i<w2.heap.size)∨(w3.heap.size<=i∧i<w4.heap.size)) w6 w3.heap.size gs1 (Gt.feeds Tu.aO Sr.new Gt.mV ((ps.map Pc.l).take i)).1 (upd (fun _=>Gt.mV) k (Gt.feeds Tu.aO Sr.new Gt.mV ((ps.map Pc.l).take i)).2.1) aD cap' (Gt.feeds Tu.aO Sr.new Gt.mV ((ps.map Pc.l).take i)).2.2 wr) (fun _ vi _=>ps.length-(intOf vi).toNat)
      case atStart=>exact⟨0,0,none,0,Nat.zero_le _,rfl,rfl,rfl,sZ.o⟩
      case round =>
       clear sZ;obtain⟨i,m,aD,cap',hi,rfl,rfl,hm,hR⟩:=hrel;have HR:=H9 hR;have HM:=H9 hm
       clear hR hm;by_cases hlt:i<ps.length
       . have hlt':(i:Int)<ps.length:=by omega
         have ci:=JV.o.cell_ HR.o.turns (fun j e=>by have:=HZ.o;omega) i hlt;have hpi:=JV.o.all ps[i] (List.getElem_mem hlt);have hlm:i<(ps.map Pc.l).length:=by rw[List.length_map];exact hlt
         have Im:=Gt.Ja Sr.new Gt.mV (ps.map Pc.l) i hlm;have hfa:=Ti (ps.map Pc.l) i hlm;have hfl:=congrArg List.length TR.o;rw[HN.o] at hfl;have hpl:(ps.map Pc.l)[i]=ps[i].l:=List.getElem_map ..;rw[hpl] at Im hfa;obtain⟨WS,Zq,fk3,Zr⟩:=Zp.o i;have Zt:=(Zp.o (i+1)).2.2.2;have hft:=Bv (ps.map Pc.l) (i+1);have hpb:aU w6 ps[i].ao ps[i].cap ps[i].l:=hpi.is.stay JV.o.below;have hpk:ps[i].l≠[]->∀a,ps[i].ao=some a->¬((wc.heap.size<=a.block∧a.block<w2.heap.size)∨(w3.heap.size<=a.block∧a.block<w4.heap.size)):=fun hne a e=>by
          obtain⟨a0,e0,e1⟩:=hpi.blk hne a e;have hl0:l≠[]:=fun h0=>by
           have hn0:n=0:=by rw[<-HN.o,h0];rfl
           have:ps[i].l.length=0:=by omega
           exact hne (List.length_eq_zero_iff.1 this)
          have aeC:a0.block<w.heap.size:=by
           have hp:0<l.length:=List.length_pos_iff.2 hl0;have h7:=HB.o;rw[e0] at h7;have:=World.block_lt_of_cell? w _ (h7.cell 0 hp);rwa[add_block] at this
          have:=HZ.o;rw[e1];omega
         generalize ps[i]=p at *;obtain⟨np,hnp⟩:∃np,p.l.length=np:=⟨_,rfl⟩;rw[hnp] at hfa ci;have oV:=H9 (HR.o.feed (w0:=w) HP.o qj.o (fun j e=>by have:=HZ.o;omega) WS k hk (by rw[aY];exact Zq) p.l hpb hpk hnp (by rw[aY];omega));rw[aY,jT] at oV;generalize Gt.feeds Tu.aO Sr.new Gt.mV ((ps.map Pc.l).take i)=F at *;obtain⟨Fs,Fc,Fo⟩:=F;simp only at oV Im HR HM Zr;rw[Im] at Zt;generalize hFp:Gt.feed Tu.aO Fs Fc p.l=Fp at *;obtain⟨Gs,Gc,Go_⟩:=Fp;simp only at oV Im Zt;have pQ:=H9 Im;have hsum:Fo.length+Go_.length<=200000000:=by rw[List.length_append] at Zt;omega
         obtain⟨cd,hcd,abb⟩:∃cd:Int,(if Fc.rq.ph=4 then (18:Int) else 0)=cd∧(cd=0∨cd=18):=⟨_,rfl,by split <;> simp⟩;rw[hcd] at oV;clear hpi Im hfa hfl hpl WS Zq fk3 Zr Zt hft hpb hpk hFp hcd hlm hnp;go_wp2_with fail
         refine oV.o.mono ?_;rintro e w7 ⟨vW,cap5,n5,L5,rfl,Nn,wN,hL5,_,hfin⟩;have SS:=H9 Nn.symm;have Fj:=H9 wN;have HL5:=H9 hL5;have Lc:=H9 hfin;have Mc:=H9 HM.o.symm
         have hml:m+n5<=200000000:=by rw[Nn,HM.o];exact hsum
         clear Nn wN hL5 hfin oV hsum;rcases abb with hcv | hcv
         . subst hcv;go_wp2_with (at_builtin;refine dZ rfl (.tmp 63) (.tmp 64) 31 rfl 5 j0 underlying31 Hj.o M9.o Na.o Nb.o rfl rfl HL5.o Mc.o Fj.o SS.o (by omega) ?_;intro FX cap6 w8 vF kD;have VD:=H9 (Lc.o FX cap6 w8 vF kD);clear vF kD)
           go_roundw
           case rel=>exact⟨i+1,m+n5,FX,cap6,by omega,by go_num,rfl,by rw[pQ.o];show _=(Fo++Go_).length;rw[List.length_append,HM.o,SS.o],by rw[pQ.o];exact VD.o⟩
           case measure=>simp[intOf];omega
         . subst hcv;go_wp2_with (at_builtin;refine dZ rfl (.tmp 63) (.tmp 64) 31 rfl 5 j0 underlying31 Hj.o M9.o Na.o Nb.o rfl rfl HL5.o Mc.o Fj.o SS.o (by omega) ?_;intro FX cap6 w8 vF kD;have VD:=H9 (Lc.o FX cap6 w8 vF kD);clear vF kD)
           go_roundw
           case rel=>exact⟨i+1,m+n5,FX,cap6,by omega,by go_num,rfl,by rw[pQ.o];show _=(Fo++Go_).length;rw[List.length_append,HM.o,SS.o],by rw[pQ.o];exact VD.o⟩
           case measure=>simp[intOf];omega
       . obtain rfl:i=ps.length:=by omega
         have hfull:(ps.map Pc.l).take ps.length=ps.map Pc.l:=by rw[List.take_of_length_le (by rw[List.length_map];exact Nat.le_refl _)]
         have hR:=HR.o;have hm:=HM.o;obtain⟨WS,Zq,fk3,Zr⟩:=Zp.o ps.length;rw[hfull,Gt.kM,TR.o] at hR hm WS;have kD:=hR.turns;have hz6:=kD.size;have YK:=YJ.o.turns kD (fun i e e2=>by have:=HZ.o;omega);have hBr:aU wr bo aj l:=by
          by_cases hne:l=[]
          . have:=HB.o;rw[hne] at this ⊢;exact aU.empty wr this
          . refine(HB.o.stay qj.o).turns kD (fun a e=>?_);have hp:0<l.length:=List.length_pos_iff.2 hne;have h7:=HB.o;rw[e] at h7;have:=World.block_lt_of_cell? w _ (h7.cell 0 hp);rw[add_block] at this;have:=HZ.o;omega
         have oV:=H9 (uN (w0:=w) HP.o (qj.o.trans (kD.below (fun i e=>by have:=HZ.o;omega) qj.o.size)) (fun i e=>by have:=HZ.o;omega) YK Sr.Ok.new k hk Gt.rZ.new l hBr (fun hne a e e2=>by
          have hp:0<l.length:=List.length_pos_iff.2 hne;have h7:=HB.o;rw[e] at h7;have:=World.block_lt_of_cell? w _ (h7.cell 0 hp);rw[add_block] at this;have:=HZ.o;omega) HN.o (by show 0+n<=20000;omega))
         have HBr:Hid (Below w.heap.size w wr):=qj.o.trans (kD.below (fun i e=>by have:=HZ.o;omega) qj.o.size);have HR2:=H9 hR;have Mc:=H9 hm;have lg:=H9 WS
         clear hR hm WS Zq fk3 Zr YK hBr kD hfull Zp HM HR YJ;generalize hFp:Gt.feed Tu.aO Sr.new Gt.mV l=F at *;obtain⟨Fs,Fc,Fo⟩:=F;simp only at oV HR2 Mc lg;rw[show(if Gt.mV.rq.ph=4 then (18:Int) else 0)=0 from rfl] at oV;go_wp2_with fail
         refine oV.o.mono ?_;rintro e w7 ⟨⟨WJ,Cc,n7,rfl,hn7,Yh⟩,Uf,vH⟩;obtain⟨A1,hG1,hB1⟩:=HR2.o.aside vH (fun i e=>by have:=HZ.o;have:=X6.o;omega);have Qm:Below w.heap.size w w7:=HBr.o.trans (vH.below (fun i e=>by have:=HZ.o;omega) HBr.o.size);have HSB:=H9 (fun(W:World) (hW:Below w7.heap.size w7 W)=>qF W aD WJ cap' Cc m n7 Fo Fo Mc.o.symm hn7.symm (hB1.stay hW) (Yh.stay hW));rw[decide_eq_true (rfl:Fo=Fo)] at HSB;obtain⟨ks,kl,kao,kca,P1,hst⟩:=hG1.dn;obtain⟨kt,jl,jao,jca,P2,hss⟩:=Uf.dn;obtain⟨⟨y0,_⟩,_⟩:=jO hst.row;obtain⟨⟨z0,_⟩,_⟩:=jO hss.row;have HL1:Hid (∀W,Below w7.heap.size w7 W->Calls prog 18 #[.pointer (some ⟨ks,0,none⟩)] W fun e w'=>∃al,e=.returned (.slice al Fs.h.l.length Fs.h.l.length)∧jH w' al Fs.h.l.length Fs.h.l∧Below W.heap.size W w'∧Below w7.heap.size w7 w'):=fun W hW=>(Bg _ P1 _ W (hst.ow.stay hW) lg.o.h.small).mono fun e w' ⟨al,h1,h2,h3⟩=>⟨al,h1,h2.rT,h3,then_ hW h3⟩;have HL2:Hid (∀W,Below w7.heap.size w7 W->Calls prog 18 #[.pointer (some ⟨kt,0,none⟩)] W fun e w'=>∃al,e=.returned (.slice al Fs.h.l.length Fs.h.l.length)∧jH w' al Fs.h.l.length Fs.h.l∧Below W.heap.size W w'∧Below w7.heap.size w7 w'):=fun W hW=>(Bg _ P2 _ W (hss.ow.stay hW) lg.o.h.small).mono fun e w' ⟨al,h1,h2,h3⟩=>⟨al,h1,h2.rT,h3,then_ hW h3⟩;have HSU:Hid (∀W al YL,jH W al Fs.h.l.length Fs.h.l->jH W YL Fs.h.l.length Fs.h.l->Below w7.heap.size w7 W->Calls prog 17 #[.slice al Fs.h.l.length Fs.h.l.length,.slice YL Fs.h.l.length Fs.h.l.length] W fun e w'=>e=.returned (.bool true)∧Below w7.heap.size w7 w'):=fun W al YL h1 h2 hW=>(FK _ al YL _ _ W h1 h2 (by have:=lg.o.h.few;omega)).mono fun e w' ⟨g1,q,g2⟩=>⟨g1,by rw[g2];exact then_ hW (fH W q)⟩;have YM:=H9 (fun(W:World) (hW:Below w7.heap.size w7 W)=>uO (hG1.stay hW) k hk);have YN:=H9 (fun(W:World) (hW:Below w7.heap.size w7 W)=>uO (Uf.stay hW) k hk);rw[aY] at YM YN;have TV:Hid (∀W,Below w7.heap.size w7 W->W.cell? ⟨gs1,0,none⟩=some (.pointer (some ⟨ks,0,none⟩))∧W.cell? ⟨gs2,0,none⟩=some (.pointer (some ⟨kt,0,none⟩))):=fun W hW=>⟨(hW.cell (p:=⟨gs1,0,none⟩) hst.lt).trans y0,(hW.cell (p:=⟨gs2,0,none⟩) hss.lt).trans z0⟩;have Fj:=H9 Qm;have MV:Hid (Below w7.heap.size w7 w7.drew):=aA _ _;clear hn7 Yh Uf vH hG1 hB1 Qm hst hss oV hFp hz6;generalize Fs.h.l.length=un at *;generalize Rq.busy Fc.rq=bz at *;go_upto_region 18 with fail
         go_region_held3 (fun W=>W.cell? ⟨gs1,0,none⟩=some (.pointer (some ⟨ks,0,none⟩))∧W.cell? ⟨gs2,0,none⟩=some (.pointer (some ⟨kt,0,none⟩))) (go_keep) (first
          | (go_at_call 15;refine(HSB.o _ MV.o).mono ?_;rintro e v0 ⟨rfl,hw⟩;rw[hw];clear hw)
          | (go_at_call_of 18 ks;refine(HL1.o _ MV.o).mono ?_;rintro e v1 ⟨al,rfl,hu1,hp1,hb1⟩;(try (have YO:=H9 (U0.o.stay hp1);clear U0;have U0:=H9 YO.o;clear YO));have Zu:=H9 hu1;obtain⟨d0,d1⟩:=TV.o v1 hb1;clear MV;have MV:=H9 hb1;clear hu1 hp1 hb1)
          | (go_at_call_of 18 kt;refine(HL2.o _ MV.o).mono ?_;rintro e v2 ⟨YL,rfl,hu2,hp2,hb2⟩;(try (have YP:=H9 (Zu.o.stay hp2);clear Zu;have Zu:=H9 YP.o;clear YP));have U0:=H9 hu2;obtain⟨d0,d1⟩:=TV.o v2 hb2;clear MV;have MV:=H9 hb2;clear hu2 hp2 hb2)
          | (go_at_call 17;refine(HSU.o _ _ _ Zu.o U0.o MV.o).mono ?_;rintro e v3 ⟨rfl,hb3⟩;obtain⟨d0,d1⟩:=TV.o v3 hb3;clear MV;have MV:=H9 hb3;clear hb3)
          | (go_at_call_of 20 w3.heap.size;refine(YM.o _ MV.o).mono ?_;rintro e v4 ⟨rfl,hw⟩;rw[hw];clear hw)
          | (go_at_call_of 20 w4.heap.size;refine(YN.o _ MV.o).mono ?_;rintro e v5 ⟨rfl,hw⟩;rw[hw];clear hw))
         all_goals
          go_wp2;go_ret;exact⟨by simp,then_ Fj.o MV.o⟩
end Go.Proofs.YtjmndjmhjleabaaGreatDoor