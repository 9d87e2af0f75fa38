"""What holds over all the calls together, asked of good references that the calls make from what root gives."""
import itertools
import unittest

from eightbytes.refs import bound, is_in, less, look, may, move, open_seal, room, root, seal
from tests.reference import grain, parts, reference, scattered, stretch

LAST = 2 ** 32 - 1
TOP = 255 * 2 ** 24


def unsealed(v):
    address, upper, lower, power, _, rights = parts(v)
    return reference(address, upper, lower, power, 0, rights)


def within(v, w):
    return stretch(w)[0] <= stretch(v)[0] and stretch(v)[1] <= stretch(w)[1]


def attempts(v, number, sealers):
    """What is tried on v: calls that may keep it good, and some that don't."""
    begin, end = stretch(v)
    to = begin + number % (end - begin + 3) - 1
    yield move(v, 1, to % 2 ** 32)
    yield move(v, 1, end)
    # Shifted by more or less, so that each power comes.
    size = (number >> 32 >> number % 32) % (end - begin) + 1
    yield bound(v, 1, size, 0)
    yield bound(v, 1, size, 1)
    yield bound(v, 1, max(end - parts(v)[0], 0), 0)
    yield less(v, 1, number >> 20)
    for y in sealers:
        yield seal(v, 1, y, 1)
        yield open_seal(v, 1, y, 1)


def grown(count):
    """That many pairs of good references, each second one made of the first, or of nothing (None)."""
    sealers = [move(root(256)[1], 1, mark)[1] for mark in (1, 5, 7)]
    made = [(None, root(rights)[1]) for rights in (0, 1, 255, 256, 511, LAST)]
    numbers = scattered(count)
    place = 0
    while len(made) < count:
        number = next(numbers)
        v = made[place][1]
        place += 1
        fresh = [w for good, w in attempts(v, number, sealers) if good == 1]
        # Not all of them, or the first steps alone would fill the row.
        for k in range(3):
            if fresh:
                made.append((v, fresh.pop((number >> 5 * k) % len(fresh))))
    return made


MADE = grown(4000)
GOOD = [v for _, v in MADE]


class Grown(unittest.TestCase):
    def test_there_are_many_sorts(self):
        self.assertEqual({parts(v)[3] for v in GOOD}, set(range(16)))
        self.assertEqual({parts(v)[4] for v in GOOD}, {0, 1, 5, 7})
        self.assertTrue(any(parts(v)[1] < parts(v)[2] for v in GOOD))
        self.assertTrue(any(parts(v)[0] == stretch(v)[1] for v in GOOD))


class NeverMore(unittest.TestCase):
    def test_a_what_is_made_is_in_what_it_is_made_of(self):
        for w, v in MADE:
            if w is not None:
                self.assertTrue(within(v, w))
                self.assertEqual(parts(v)[5] & ~parts(w)[5], 0)
                self.assertEqual(is_in(unsealed(v), unsealed(w)), [1])

    def test_a_what_may_be_reached_could_be_before(self):
        for w, v in MADE:
            if w is not None:
                begin, end = stretch(v)
                rights = parts(v)[5]
                if parts(v)[4] == 0:
                    self.assertEqual(may(v, 1, begin, end - begin, rights), [0])
                self.assertEqual(may(unsealed(w), 1, begin, end - begin, rights), [0])

    def test_what_is_not_good_makes_nothing_good(self):
        y = move(root(256)[1], 1, 5)[1]
        for v in GOOD[:300]:
            begin, end = stretch(v)
            self.assertEqual(move(v, 0, begin)[0], 0)
            self.assertEqual(bound(v, 0, 1, 0)[0], 0)
            self.assertEqual(less(v, 0, 511)[0], 0)
            self.assertEqual(seal(v, 0, y, 1)[0], 0)
            self.assertEqual(open_seal(v, 0, y, 1)[0], 0)
            self.assertEqual(may(v, 0, begin, 1, 0), [-1])


class NoWider(unittest.TestCase):
    def asked(self):
        for v, number in zip(GOOD, scattered(len(GOOD))):
            left = stretch(v)[1] - parts(v)[0]
            if left > 0:
                yield v, number % left + 1

    def test_b_the_asked_stretch_is_in_it(self):
        for v, n in self.asked():
            begin, end = stretch(bound(v, 1, n, 0)[1])
            self.assertTrue(begin <= parts(v)[0] and parts(v)[0] + n <= end)

    def test_b_every_reference_with_the_asked_stretch_has_this_one(self):
        for v, n in itertools.islice(self.asked(), 400):
            told = bound(v, 1, n, 0)[1]
            address = parts(v)[0]
            # Every stretch of a power that holds the asked one holds the narrowest of that power.
            for power in range(16):
                size = grain(power)
                first, behind = address // size, -(-(address + n) // size)
                if behind - first <= 255:
                    narrowest = reference(address, behind % 256, first % 256, power)
                    self.assertTrue(stretch(narrowest)[0] <= address and address + n <= stretch(narrowest)[1])
                    self.assertTrue(within(told, narrowest))

    def test_b_among_those_that_were_made(self):
        for v, n in itertools.islice(self.asked(), 100):
            told = bound(v, 1, n, 0)[1]
            address = parts(v)[0]
            for w in GOOD:
                if stretch(w)[0] <= address and address + n <= stretch(w)[1]:
                    self.assertTrue(within(told, w))


class MovedAnywhere(unittest.TestCase):
    def test_c_from_where_it_begins_to_where_it_ends(self):
        for v, number in zip(GOOD, scattered(len(GOOD))):
            if parts(v)[4] == 0:
                begin, end = stretch(v)
                for to in (begin, begin + number % (end - begin), end - 1, end):
                    good, moved = move(v, 1, to)
                    self.assertEqual((good, stretch(moved)), (1, (begin, end)))
                    self.assertEqual(move(moved, 1, parts(v)[0]), [1, v])


class JustSo(unittest.TestCase):
    def test_d_up_to_255_bytes_wherever_they_lie(self):
        for v, number in zip(GOOD, scattered(len(GOOD))):
            begin, end = stretch(v)
            if parts(v)[4] == 0:
                n = min(number % 255 + 1, end - begin)
                at = begin + (number >> 8) % (end - begin - n + 1)
                good, w = bound(move(v, 1, at)[1], 1, n, 1)
                self.assertEqual((good, stretch(w)), (1, (at, at + n)))

    def test_d_as_many_as_room_tells(self):
        for v in GOOD:
            begin, end = stretch(v)
            number, length, size = room(end - begin)
            # A reference's own length is one that a reference has: room adds nothing.
            self.assertEqual((number, length), (0, end - begin))
            if parts(v)[4] == 0 and begin % size == 0:
                good, w = bound(move(v, 1, begin)[1], 1, length, 1)
                self.assertEqual((good, stretch(w)), (1, (begin, end)))

    def test_d_no_length_from_n_on_is_below_what_room_tells(self):
        lengths = sorted({count * grain(power) for power in range(16) for count in range(1, 256)})
        for before, after in zip([0] + lengths, lengths):
            for n in (before + 1, (before + after + 1) // 2, after):
                self.assertEqual(room(n)[:2], [0, after])


class GoodOnes(unittest.TestCase):
    def test_e_where_they_lie(self):
        for v in GOOD:
            begin, end = stretch(v)
            self.assertTrue(0 <= begin < end <= TOP)
            self.assertEqual(look(v), [0, begin, end - begin, parts(v)[0], parts(v)[4], parts(v)[5], look(v)[6]])

    def test_e_a_sealed_one_does_not_stay_good(self):
        y = move(root(256)[1], 1, 5)[1]
        for v in GOOD:
            if parts(v)[4] != 0:
                begin, end = stretch(v)
                for to in (begin, parts(v)[0], end):
                    self.assertEqual(move(v, 1, to)[0], 0)
                for n in (1, end - begin):
                    self.assertEqual(bound(v, 1, n, 0)[0], 0)
                self.assertEqual(less(v, 1, 511)[0], 0)
                self.assertEqual(less(v, 1, 0)[0], 0)
                self.assertEqual(seal(v, 1, y, 1), [0, v])
                self.assertEqual(may(v, 1, begin, 1, 0), [-2])

    def test_e_sealed_and_opened_again_is_as_it_was(self):
        for v, mark in zip(GOOD, itertools.cycle(range(1, 8))):
            if parts(v)[4] == 0:
                y = move(root(256)[1], 1, mark)[1]
                good, closed = seal(v, 1, y, 1)
                self.assertEqual((good, parts(closed)[4]), (1, mark))
                self.assertEqual(open_seal(closed, 1, y, 1), [1, v])
                other = move(root(256)[1], 1, mark % 7 + 1)[1]
                self.assertEqual(open_seal(closed, 1, other, 1), [0, closed])


if __name__ == "__main__":
    unittest.main()
